package stack_test

import (
	"runtime"
	"slices"
	"testing"
	"weak"

	"tappet/api"
	"tappet/stack"
)

// thing is great enough to be freed alone.
type thing struct{ body [64]byte }

// things are put on the stack, and known by nobody else.
func things(t *testing.T, s *stack.Stack[*thing], count int) []weak.Pointer[thing] {
	t.Helper()
	var l []weak.Pointer[thing]
	for range count {
		v := new(thing)
		push(t, s, v)
		l = append(l, weak.Make(v))
	}
	return l
}

func gone(l []weak.Pointer[thing]) int {
	runtime.GC()
	n := 0
	for _, w := range l {
		if w.Value() == nil {
			n++
		}
	}
	return n
}

// What was taken away is kept nowhere.
func TestTakenIsNotKept(t *testing.T) {
	s := made[*thing](t, 5)
	l := things(t, s, 5)
	if n := gone(l); n != 0 {
		t.Error("gone while they lie there:", n)
	}
	s.Pop()
	if n := gone(l[4:]); n != 1 || gone(l[:4]) != 0 {
		t.Error("one was popped, gone:", n)
	}
	s.Cut(1)
	if n := gone(l[1:]); n != 4 || gone(l[:1]) != 0 {
		t.Error("all but one were cut, gone:", n)
	}
	s.Cut(0)
	if n := gone(l); n != 5 {
		t.Error("all were cut, gone:", n)
	}
	runtime.KeepAlive(s)
}

// R3: a copy keeps what it holds, and nothing that the other holds.
func TestCopyKeepsItsOwn(t *testing.T) {
	s := made[*thing](t, 4)
	l := things(t, s, 2)
	c := s.Copy()
	s.Cut(0)
	if n := gone(l); n != 0 {
		t.Error("the copy holds them, gone:", n)
	}
	c.Pop()
	l = append(l, things(t, s, 2)...)
	if n := gone(l); n != 1 {
		t.Error("one was popped off the copy, gone:", n)
	}
	runtime.KeepAlive(s)
	s = nil
	if n := gone(l); n != 3 {
		t.Error("the stack is no more, gone:", n)
	}
	runtime.KeepAlive(c)
}

// R3: what Cut tells is the caller's own, also behind what is pushed later.
func TestCutIsTheCallers(t *testing.T) {
	s := of(t, 4, 1, 2, 3, 4)
	first, e := s.Cut(2)
	if e != api.OK {
		t.Fatal(e)
	}
	push(t, s, 7, 8)
	second, _ := s.Cut(1)
	if !slices.Equal(first, []int{4, 3}) || !slices.Equal(second, []int{8, 7, 2}) {
		t.Error(first, second)
	}
	first[0], second[0] = -1, -1
	_ = append(first, -2)
	_ = append(second, -2)
	push(t, s, 5)
	holds(t, s, 4, 4, 5, 1)
	if !slices.Equal(first, []int{-1, 3}) || !slices.Equal(second, []int{-1, 7, 2}) {
		t.Error(first, second)
	}
}

// The depth is reckoned ahead: what is pushed, popped and asked later asks for no memory.
func TestNoMemoryAsked(t *testing.T) {
	s := made[[4]int](t, 8)
	n := testing.AllocsPerRun(100, func() {
		for i := range 9 {
			s.Push([4]int{i})
		}
		s.Find([4]int{3})
		s.Top()
		for range 9 {
			s.Pop()
		}
	})
	if n != 0 {
		t.Error("asked for memory:", n)
	}
}
