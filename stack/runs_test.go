package stack_test

import (
	"slices"
	"testing"

	"tappet/stack"
)

// pair is a stack and the pile that it must be like.
type pair struct {
	s *stack.Stack[int]
	p *pile[int]
}

func newPair(t *testing.T, depth int) *pair {
	t.Helper()
	return &pair{made[int](t, depth), &pile[int]{depth: depth}}
}

func (x *pair) push(t *testing.T, v int) {
	t.Helper()
	if e, want := x.s.Push(v), x.p.push(v); e != want {
		t.Fatalf("Push(%d): %d, not %d", v, e, want)
	}
}

func (x *pair) pop(t *testing.T) {
	t.Helper()
	v, e := x.s.Pop()
	if w, want := x.p.pop(); v != w || e != want {
		t.Fatalf("Pop: %d %d, not %d %d", v, e, w, want)
	}
}

func (x *pair) cut(t *testing.T, n int) {
	t.Helper()
	l, e := x.s.Cut(n)
	if m, want := x.p.cut(n); !slices.Equal(l, m) || e != want {
		t.Fatalf("Cut(%d): %v %d, not %v %d", n, l, e, m, want)
	}
}

// copied goes on as the copy; the other is given back.
func (x *pair) copied() *pair {
	old := *x
	x.s, x.p = x.s.Copy(), x.p.copy()
	return &old
}

func (x *pair) stands(t *testing.T) {
	t.Helper()
	stands(t, x.s, x.p, 1, 2, 3)
}

// asked: one thing alone is asked for: nothing that is told may hang on what was asked ahead of it.
func (x *pair) asked(what int) {
	switch what {
	case 0:
		x.s.Top()
	case 1:
		x.s.Find(1)
	case 2:
		x.s.Len()
	case 3:
		x.s.Depth()
	case 4:
		x.s.High()
	case 5:
		for range x.s.All() {
			break
		}
	}
}

// runs does all rows of so many of the deeds, each with a stack of its own that holds so many things.
func runs(t *testing.T, depth, filled, long int, deeds []func(x *pair)) {
	t.Helper()
	count := 1
	for range long {
		count *= len(deeds)
	}
	for n := range count {
		x := newPair(t, depth)
		for v := range filled {
			x.push(t, 1+v)
		}
		for range long {
			deeds[n%len(deeds)](x)
			n /= len(deeds)
		}
		x.stands(t)
	}
}

// P14.2 to P14.7: every call that changes a stack in every order, up to six deep, on small stacks.
func TestEveryShortRun(t *testing.T) {
	deeds := []func(x *pair){
		func(x *pair) { x.push(t, 1) },
		func(x *pair) { x.push(t, 2) },
		func(x *pair) { x.pop(t) },
		func(x *pair) { x.cut(t, 0) },
		func(x *pair) { x.cut(t, 1) },
		func(x *pair) { x.cut(t, 2) },
		func(x *pair) { x.copied() },
	}
	for depth := range 4 {
		for long := range 7 {
			runs(t, depth, 0, long, deeds)
		}
	}
}

// P14.2 to P14.7: every call of the chapter in every order, up to four deep, on stacks that hold something.
func TestEveryCall(t *testing.T) {
	deeds := []func(x *pair){
		func(x *pair) { x.push(t, 1) },
		func(x *pair) { x.push(t, 3) },
		func(x *pair) { x.pop(t) },
		func(x *pair) { x.cut(t, -1) },
		func(x *pair) { x.cut(t, 1) },
		func(x *pair) { x.cut(t, 3) },
		func(x *pair) {
			old := x.copied()
			old.push(t, 2)
			old.pop(t)
			old.stands(t)
		},
		func(x *pair) {
			c := *x
			c.copied().stands(t)
			c.cut(t, 0)
			c.push(t, 2)
			c.stands(t)
		},
	}
	for what := range 6 {
		deeds = append(deeds, func(x *pair) { x.asked(what) })
	}
	for depth := 1; depth < 4; depth++ {
		for filled := range depth + 1 {
			runs(t, depth, filled, 4, deeds)
		}
	}
}

// step does one thing by chance.
func (x *pair) step(t *testing.T, c *chance) (old *pair) {
	t.Helper()
	switch n := c.below(40); {
	case n < 18:
		x.push(t, c.below(6))
	case n < 30:
		x.pop(t)
	case n < 33:
		x.cut(t, c.below(8)-1)
	case n < 35:
		old = x.copied()
	default:
		x.asked(c.below(6))
	}
	return old
}

// P14.2 to P14.7, R4: long runs, with copies that go their own ways: each step changes one stack alone.
func TestLongRuns(t *testing.T) {
	c := chance(1)
	for range 400 {
		all := []*pair{newPair(t, c.below(9))}
		for range 150 {
			x := all[c.below(len(all))]
			if old := x.step(t, &c); old != nil && len(all) < 4 {
				all = append(all, old)
			}
			for _, y := range all {
				y.stands(t)
			}
		}
	}
}

// P14.2 to P14.7: whatever is done, the first byte the depth.
func FuzzStack(f *testing.F) {
	f.Add([]byte{2, 0, 1, 0, 5, 5, 5})
	f.Add([]byte{0, 0, 5, 6, 7, 8, 9})
	f.Add([]byte{5, 1, 2, 3, 20, 0, 9, 1, 7, 30, 0})
	f.Fuzz(func(t *testing.T, b []byte) {
		if len(b) == 0 || len(b) > 200 {
			return
		}
		x := newPair(t, int(b[0]%16))
		for _, v := range b[1:] {
			switch v % 10 {
			case 0, 1, 2, 3, 4:
				x.push(t, int(v%5))
			case 5, 6:
				x.pop(t)
			case 7, 8:
				x.cut(t, int(v/10)-1)
			case 9:
				old := x.copied()
				old.stands(t)
			}
			x.stands(t)
		}
	})
}
