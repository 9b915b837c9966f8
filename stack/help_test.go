package stack_test

import (
	"slices"
	"testing"

	"tappet/api"
	"tappet/stack"
)

// pile reads the chapter a second time: a list with the top at its beginning, made anew at each change, with its depth and its greatest length.
type pile[T comparable] struct {
	depth, high int
	list        []T
}

func (p *pile[T]) push(v T) api.Errno {
	if len(p.list) >= p.depth {
		return api.ErrOverflow
	}
	p.list = append([]T{v}, p.list...)
	p.high = max(p.high, len(p.list))
	return api.OK
}

func (p *pile[T]) pop() (T, api.Errno) {
	var v T
	if len(p.list) == 0 {
		return v, api.ErrUnderflow
	}
	v, p.list = p.list[0], slices.Clone(p.list[1:])
	return v, api.OK
}

func (p *pile[T]) cut(n int) ([]T, api.Errno) {
	if n < 0 {
		return nil, api.ErrArg
	}
	if len(p.list) < n {
		return nil, api.ErrUnderflow
	}
	l := p.list[:len(p.list)-n]
	p.list = slices.Clone(p.list[len(l):])
	return slices.Clone(l), api.OK
}

func (p *pile[T]) find(v T) (int, bool) {
	if n := slices.Index(p.list, v); n >= 0 {
		return n, true
	}
	return 0, false
}

func (p *pile[T]) copy() *pile[T] { return &pile[T]{p.depth, p.high, slices.Clone(p.list)} }

func made[T comparable](t *testing.T, depth int) *stack.Stack[T] {
	t.Helper()
	s, e := stack.New[T](depth)
	if e != api.OK || s == nil {
		t.Fatalf("New(%d): %v, %d", depth, s, e)
	}
	return s
}

func push[T comparable](t *testing.T, s *stack.Stack[T], l ...T) {
	t.Helper()
	for _, v := range l {
		if e := s.Push(v); e != api.OK {
			t.Fatalf("Push(%v): %d", v, e)
		}
	}
}

// of is a stack of that depth, with these things pushed one behind the other.
func of[T comparable](t *testing.T, depth int, l ...T) *stack.Stack[T] {
	t.Helper()
	s := made[T](t, depth)
	push(t, s, l...)
	return s
}

func pops[T comparable](t *testing.T, s *stack.Stack[T], l ...T) {
	t.Helper()
	for _, want := range l {
		if v, e := s.Pop(); v != want || e != api.OK {
			t.Fatalf("Pop: %v %d, not %v", v, e, want)
		}
	}
}

func popsNothing[T comparable](t *testing.T, s *stack.Stack[T], want api.Errno) {
	t.Helper()
	var zero T
	if v, e := s.Pop(); v != zero || e != want {
		t.Errorf("Pop: %v %d, not %d", v, e, want)
	}
}

func cuts[T comparable](t *testing.T, s *stack.Stack[T], n int, want ...T) {
	t.Helper()
	if l, e := s.Cut(n); e != api.OK || !slices.Equal(l, want) {
		t.Fatalf("Cut(%d): %v %d, not %v", n, l, e, want)
	}
}

func cutsNothing[T comparable](t *testing.T, s *stack.Stack[T], n int, want api.Errno) {
	t.Helper()
	if l, e := s.Cut(n); len(l) != 0 || e != want {
		t.Errorf("Cut(%d): %v %d, not %d", n, l, e, want)
	}
}

func finds[T comparable](t *testing.T, s *stack.Stack[T], v T, above int, there bool) {
	t.Helper()
	if n, ok := s.Find(v); n != above || ok != there {
		t.Errorf("Find(%v): %d %v, not %d %v", v, n, ok, above, there)
	}
}

// stands: a stack is told by all that can be asked of it as the pile is; what is sought are its things, the zero thing and these others.
func stands[T comparable](t *testing.T, s *stack.Stack[T], p *pile[T], others ...T) {
	t.Helper()
	if s.Len() != len(p.list) || s.Depth() != p.depth || s.High() != p.high {
		t.Fatalf("Len %d, Depth %d, High %d; not as %v", s.Len(), s.Depth(), s.High(), *p)
	}
	var zero T
	v, ok := s.Top()
	if there := len(p.list) > 0; ok != there || there && v != p.list[0] || !there && v != zero {
		t.Fatalf("Top: %v %v; not as %v", v, ok, p.list)
	}
	i := 0
	for v := range s.All() {
		if i >= len(p.list) || v != p.list[i] {
			t.Fatalf("All: %v at %d; not as %v", v, i, p.list)
		}
		i++
	}
	if i != len(p.list) {
		t.Fatalf("All: %d things; not as %v", i, p.list)
	}
	sought := func(v T) {
		n, ok := s.Find(v)
		if m, there := p.find(v); n != m || ok != there {
			t.Fatalf("Find(%v): %d %v; not as %v", v, n, ok, p.list)
		}
	}
	sought(zero)
	for _, v := range p.list {
		sought(v)
	}
	for _, v := range others {
		sought(v)
	}
}

// holds: these things, from the top on, of that depth, and as many at most at one time.
func holds[T comparable](t *testing.T, s *stack.Stack[T], depth, high int, l ...T) {
	t.Helper()
	stands(t, s, &pile[T]{depth, high, l})
}

// chance gives numbers that are the same in each run.
type chance uint64

func (c *chance) below(n int) int {
	*c = *c*6364136223846793005 + 1442695040888963407
	return int(uint64(*c>>33) % uint64(n))
}
