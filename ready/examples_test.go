package ready_test

import (
	"testing"

	"tappet/api"
)

// The chapter's first and second example.
func TestExamples1And2(t *testing.T) {
	q := made(t, [2]int{3, 1}, [2]int{1, 2})
	tail(t, q, 1, 7)
	tail(t, q, 3, 8)
	tail(t, q, 1, 9)
	if p, ok := q.Highest(); q.Bits() != 10 || p != 3 || !ok {
		t.Error("Bits, Highest:", q.Bits(), p, ok)
	}
	if a, b := q.Tail(3, 5), q.Tail(2, 5); a != api.ErrFull || b != api.ErrPriority {
		t.Error("Tail:", a, b)
	}
	takes(t, q, 3, 8)
	takes(t, q, 1, 7)
	head(t, q, 1, 7)
	holds(t, q, [2]int{1, 7}, [2]int{1, 9})
	if q.High(1) != 2 {
		t.Error("High:", q.High(1))
	}
}

// Its third one.
func TestExample3(t *testing.T) {
	refused(t, rows([2]int{1, 1}, [2]int{3, 1}))
	refused(t, rows([2]int{64, 1}))
	refused(t, rows([2]int{1, 0}))
}

// The numbers that the chapter names.
func TestNumbers(t *testing.T) {
	if api.ErrPriority != 130 || api.ErrFull != 131 || api.ErrEmpty != 132 || api.ErrRings != 133 || api.ErrNil != 1 {
		t.Error("errors")
	}
	if api.MaxPriority != 63 || api.MaxRing != 65536 {
		t.Error("limits")
	}
}
