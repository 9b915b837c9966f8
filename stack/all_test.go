package stack_test

import (
	"iter"
	"slices"
	"testing"

	"tappet/stack"
)

// P14.5: All left behind each number of things, and gone through again; the stack stays as it is.
func TestAllLeftEarly(t *testing.T) {
	want := []int{4, 3, 2, 1}
	s := of(t, 5, 1, 2, 3, 4)
	all := s.All()
	for stop := range len(want) + 1 {
		var seen []int
		for v := range all {
			if len(seen) == stop {
				break
			}
			seen = append(seen, v)
		}
		if !slices.Equal(seen, want[:stop]) {
			t.Errorf("left behind %d: %v", stop, seen)
		}
		for range 2 {
			if l := slices.Collect(all); !slices.Equal(l, want) {
				t.Errorf("again: %v", l)
			}
		}
	}
	holds(t, s, 5, 4, want...)
}

// P14.5: nothing is yielded behind a no.
func TestAllStops(t *testing.T) {
	s := of(t, 4, 1, 2, 3, 4)
	for stop := 1; stop <= 4; stop++ {
		n := 0
		s.All()(func(int) bool {
			n++
			return n < stop
		})
		if n != stop {
			t.Errorf("asked to stop at %d, went to %d", stop, n)
		}
	}
}

// P14.5: what there is when the ranging begins, which need not be when All was called.
func TestAllBeginsLate(t *testing.T) {
	s := made[int](t, 3)
	all := s.All()
	is := func(want ...int) {
		t.Helper()
		if l := slices.Collect(all); !slices.Equal(l, want) {
			t.Errorf("All: %v, not %v", l, want)
		}
	}
	is()
	push(t, s, 1, 2)
	is(2, 1)
	pops(t, s, 2)
	is(1)
	push(t, s, 3, 4)
	is(4, 3, 1)
	c := s.Copy()
	cuts(t, s, 0, 4, 3, 1)
	is()
	holds(t, c, 3, 3, 4, 3, 1)
}

// P14.5: whatever is done to the stack meanwhile, also by ranging within.
func TestAllMeanwhile(t *testing.T) {
	for name, do := range map[string]func(s *stack.Stack[int]){
		"Push":   func(s *stack.Stack[int]) { s.Push(9) },
		"Pop":    func(s *stack.Stack[int]) { s.Pop() },
		"change": func(s *stack.Stack[int]) { s.Pop(); s.Push(9) },
		"Cut":    func(s *stack.Stack[int]) { s.Cut(0) },
		"Cut 1":  func(s *stack.Stack[int]) { s.Cut(1) },
		"refill": func(s *stack.Stack[int]) { s.Cut(0); s.Push(9); s.Push(9); s.Push(9); s.Push(9) },
		"Copy":   func(s *stack.Stack[int]) { s.Copy().Cut(0) },
	} {
		s := of(t, 4, 1, 2, 3)
		var seen []int
		for v := range s.All() {
			seen = append(seen, v)
			do(s)
			now := slices.Collect(s.All())
			var within []int
			for v := range s.All() {
				within = append(within, v)
				do(s)
			}
			if !slices.Equal(now, within) {
				t.Errorf("%s: within %v, not %v", name, within, now)
			}
		}
		if !slices.Equal(seen, []int{3, 2, 1}) {
			t.Errorf("%s: %v", name, seen)
		}
	}
}

// P14.5: two that range at one time do not meet, whichever of them goes on.
func TestTwoRangings(t *testing.T) {
	s := of(t, 3, 1, 2, 3)
	all := s.All()
	next, stop := iter.Pull(all)
	defer stop()
	var first, second []int
	for v := range all {
		second = append(second, v)
		if w, ok := next(); ok {
			first = append(first, w)
		}
		s.Cut(0)
	}
	want := []int{3, 2, 1}
	if _, ok := next(); ok || !slices.Equal(first, want) || !slices.Equal(second, want) {
		t.Error(first, second)
	}
}

// A body that panics out of the ranging leaves the stack as it is.
func TestAllPanickedOutOf(t *testing.T) {
	s := of(t, 3, 1, 2)
	func() {
		defer func() { recover() }()
		for range s.All() {
			panic("out")
		}
	}()
	holds(t, s, 3, 2, 2, 1)
}
