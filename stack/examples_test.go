package stack_test

import (
	"testing"

	"tappet/api"
)

// The chapter's first example.
func TestExample1(t *testing.T) {
	s := of(t, 2, 5, 6)
	if e := s.Push(7); e != api.ErrOverflow {
		t.Error("Push:", e)
	}
	finds(t, s, 5, 1, true)
	pops(t, s, 6)
	if s.High() != 2 {
		t.Error("High:", s.High())
	}
}

// Its second one.
func TestExample2(t *testing.T) {
	s := of(t, 3, 1, 2, 3)
	cuts(t, s, 1, 3, 2)
	if v, ok := s.Top(); v != 1 || !ok {
		t.Error("Top:", v, ok)
	}
	cutsNothing(t, s, 2, api.ErrUnderflow)
	cutsNothing(t, s, -1, api.ErrArg)
	holds(t, s, 3, 3, 1)
}
