package ring_test

import (
	"slices"
	"testing"

	"tappet/api"
	"tappet/ring"
)

// The chapter's first example.
func TestExample1(t *testing.T) {
	r := made[int](t, 2)
	last(t, r, 1)
	first(t, r, 0)
	if e := r.Last(2); e != api.ErrNoRoom {
		t.Error("Last:", e)
	}
	if v, ok := r.At(0); v != 0 || !ok {
		t.Error("At:", v, ok)
	}
	takes(t, r, 0, 1)
	takesNothing(t, r, api.ErrNothing)
	if r.High() != 2 {
		t.Error("High:", r.High())
	}
}

// Its second one.
func TestExample2(t *testing.T) {
	r := made[int](t, 0)
	if e := r.Last(1); !r.Full() || e != api.ErrNoRoom {
		t.Error("no room:", e)
	}
	if r, e := ring.New[int](-1); r != nil || e != api.ErrRoom {
		t.Error("New:", r, e)
	}
}

// Its third one.
func TestExample3(t *testing.T) {
	r := made[int](t, 2)
	last(t, r, 0, 1)
	var seen []int
	for v := range r.All() {
		seen = append(seen, v)
		r.Take()
		r.Clear()
	}
	if !slices.Equal(seen, []int{0, 1}) {
		t.Error(seen)
	}
}
