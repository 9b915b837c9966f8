package stack_test

import (
	"math"
	"testing"

	"tappet/api"
	"tappet/stack"
)

// P14.1: each depth from 0 to MaxStack, and none beside them.
func TestNew(t *testing.T) {
	for depth := range api.MaxStack + 1 {
		holds(t, made[int](t, depth), depth, 0)
	}
	for _, depth := range []int{-1, -2, -1024, math.MinInt32, math.MinInt, 1025, 1026, 2048, 65536, 1 << 32, 1<<32 + 1, math.MaxInt} {
		if s, e := stack.New[string](depth); s != nil || e != api.ErrDepth {
			t.Errorf("New(%d): %v, %d", depth, s, e)
		}
	}
	if api.MaxStack != 1024 || api.ErrDepth != 140 || api.ErrOverflow != 141 || api.ErrUnderflow != 142 || api.ErrArg != 2 || api.ErrNil != 1 {
		t.Error("the chapter's numbers")
	}
}

// P14.2: the thing is the top, the others lie below it as they did.
func TestPush(t *testing.T) {
	s := made[string](t, 3)
	push(t, s, "a")
	holds(t, s, 3, 1, "a")
	push(t, s, "b")
	holds(t, s, 3, 2, "b", "a")
	push(t, s, "")
	holds(t, s, 3, 3, "", "b", "a")
}

// P14.2: nothing is put on a stack that is full; it takes things again when one was taken.
func TestOverflow(t *testing.T) {
	for _, depth := range []int{0, 1, 2, 3, 1023, api.MaxStack} {
		s, p := made[int](t, depth), &pile[int]{depth: depth, high: depth}
		for i := range depth {
			push(t, s, i)
			p.list = append(p.list, depth-1-i)
		}
		for range 3 {
			if e := s.Push(-7); e != api.ErrOverflow {
				t.Errorf("depth %d: Push: %d", depth, e)
			}
		}
		stands(t, s, p, -7)
		if depth == 0 {
			continue
		}
		pops(t, s, depth-1)
		push(t, s, -8)
		p.list[0] = -8
		if e := s.Push(-7); e != api.ErrOverflow {
			t.Errorf("depth %d: Push again: %d", depth, e)
		}
		stands(t, s, p, -7, depth-1)
	}
}

// P14.3: the top, which is taken away; then there is none.
func TestPop(t *testing.T) {
	s := made[int](t, 3)
	popsNothing(t, s, api.ErrUnderflow)
	holds(t, s, 3, 0)
	push(t, s, 1, 2, 3)
	pops(t, s, 3)
	holds(t, s, 3, 3, 2, 1)
	pops(t, s, 2)
	holds(t, s, 3, 3, 1)
	pops(t, s, 1)
	popsNothing(t, s, api.ErrUnderflow)
	popsNothing(t, s, api.ErrUnderflow)
	holds(t, s, 3, 3)
	push(t, s, 4)
	holds(t, s, 3, 3, 4)
	popsNothing(t, made[string](t, 0), api.ErrUnderflow)
}

// P14.4: the top, which stays; false of none, also where one was.
func TestTop(t *testing.T) {
	s := made[string](t, 2)
	none := func() {
		t.Helper()
		if v, ok := s.Top(); v != "" || ok {
			t.Errorf("Top of nothing: %q %v", v, ok)
		}
	}
	none()
	push(t, s, "a", "b")
	for range 3 {
		if v, ok := s.Top(); v != "b" || !ok {
			t.Errorf("Top: %q %v", v, ok)
		}
	}
	pops(t, s, "b")
	if v, ok := s.Top(); v != "a" || !ok {
		t.Errorf("Top: %q %v", v, ok)
	}
	pops(t, s, "a")
	none()
	push(t, s, "c")
	cuts(t, s, 0, "c")
	none()
}

// P14.4: how many lie above the uppermost one that is equal.
func TestFind(t *testing.T) {
	s := made[int](t, 6)
	finds(t, s, 0, 0, false)
	push(t, s, 4, 7, 4, 5, 5)
	for v, above := range map[int]int{5: 0, 4: 2, 7: 3} {
		finds(t, s, v, above, true)
	}
	for _, v := range []int{0, -5, 6, math.MaxInt, math.MinInt} {
		finds(t, s, v, 0, false)
	}
	pops(t, s, 5, 5)
	finds(t, s, 5, 0, false)
	finds(t, s, 4, 0, true)
	pops(t, s, 4)
	finds(t, s, 4, 1, true)
	push(t, s, 0)
	finds(t, s, 0, 0, true)
	cuts(t, s, 1, 0, 7)
	finds(t, s, 0, 0, false)
	finds(t, s, 7, 0, false)
	finds(t, s, 4, 0, true)
}

// P14.4: Find at every number of things above, of the greatest stack, too.
func TestFindEverywhere(t *testing.T) {
	for _, depth := range []int{1, 2, 5, 40, api.MaxStack} {
		s := made[int](t, depth)
		for count := 1; count <= depth; count++ {
			push(t, s, count)
			if depth > 40 && count%200 != 0 && count < depth-1 {
				continue
			}
			for v := 1; v <= count; v++ {
				finds(t, s, v, count-v, true)
			}
			finds(t, s, 0, 0, false)
			finds(t, s, count+1, 0, false)
		}
	}
}

// P14.4: the greatest number that there was, not the number of things pushed, nor the depth; what was refused does not count.
func TestHigh(t *testing.T) {
	s := made[int](t, 4)
	for i := range 9 {
		push(t, s, i)
		pops(t, s, i)
	}
	holds(t, s, 4, 1)
	push(t, s, 1, 2)
	pops(t, s, 2)
	holds(t, s, 4, 2, 1)
	push(t, s, 2, 3)
	holds(t, s, 4, 3, 3, 2, 1)
	cuts(t, s, 0, 3, 2, 1)
	holds(t, s, 4, 3)
	push(t, s, 1, 2, 3, 4)
	s.Push(5)
	s.Push(6)
	holds(t, s, 4, 4, 4, 3, 2, 1)
	pops(t, s, 4, 3, 2, 1)
	holds(t, s, 4, 4)
	none := made[int](t, 0)
	none.Push(1)
	holds(t, none, 0, 0)
}

// P14.6: Cut at every number, of every number of things.
func TestCut(t *testing.T) {
	for depth := range 6 {
		for count := range depth + 1 {
			for n := -3; n <= depth+3; n++ {
				s, p := made[int](t, depth), &pile[int]{depth: depth}
				for i := range count {
					push(t, s, i+1)
					p.push(i + 1)
				}
				want, e := p.cut(n)
				if e != api.OK {
					cutsNothing(t, s, n, e)
				} else {
					cuts(t, s, n, want...)
				}
				stands(t, s, p, 1, 2, 3, 4, 5)
				for len(p.list) < depth {
					push(t, s, 9)
					p.push(9)
				}
				if e := s.Push(8); e != api.ErrOverflow {
					t.Error("Push:", e)
				}
				stands(t, s, p, 8)
			}
		}
	}
}

// P14.6: numbers that are none of the stack's, and which error is told first.
func TestCutWrong(t *testing.T) {
	s := of(t, 4, 1, 2)
	for _, n := range []int{-1, -2, -3, math.MinInt32, math.MinInt} {
		cutsNothing(t, s, n, api.ErrArg)
		cutsNothing(t, made[int](t, 0), n, api.ErrArg)
	}
	for _, n := range []int{3, 4, 5, 1025, 1 << 32, 1<<32 + 1, math.MaxInt} {
		cutsNothing(t, s, n, api.ErrUnderflow)
		cutsNothing(t, made[int](t, 0), n, api.ErrUnderflow)
	}
	holds(t, s, 4, 2, 2, 1)
	cuts(t, s, 2)
	holds(t, s, 4, 2, 2, 1)
	cuts(t, made[int](t, 0), 0)
}

// P14.6, R4: a copy is as the other, and then each goes its own way.
func TestCopy(t *testing.T) {
	for depth := range 5 {
		for count := range depth + 1 {
			for fall := range count + 1 {
				s, p := made[int](t, depth), &pile[int]{depth: depth}
				for i := range count {
					push(t, s, i+1)
					p.push(i + 1)
				}
				for range fall {
					s.Pop()
					p.pop()
				}
				c, q := s.Copy(), p.copy()
				stands(t, c, q)
				stands(t, s, p)
				if c.Push(7) != q.push(7) || c.Push(8) != q.push(8) {
					t.Error("Push on a copy")
				}
				stands(t, c, q)
				stands(t, s, p, 7, 8)
				if s.Push(9) != p.push(9) {
					t.Error("Push below a copy")
				}
				stands(t, c, q, 9)
				stands(t, s, p)
				s.Cut(0)
				p.cut(0)
				stands(t, c, q)
				stands(t, s, p)
			}
		}
	}
}

// P14.4, P14.6: a copy begins with the High of the other, which may be more than it holds; then each has its own.
func TestHighOfCopies(t *testing.T) {
	s := of(t, 5, 1, 2, 3)
	pops(t, s, 3, 2)
	c := s.Copy()
	holds(t, c, 5, 3, 1)
	push(t, c, 2, 3, 4)
	holds(t, c, 5, 4, 4, 3, 2, 1)
	holds(t, s, 5, 3, 1)
	holds(t, s.Copy().Copy(), 5, 3, 1)
	push(t, s, 6, 7, 8, 9)
	holds(t, s, 5, 5, 9, 8, 7, 6, 1)
	holds(t, c, 5, 4, 4, 3, 2, 1)
}

// P14.7: in the turned order, of every number of things, whatever was there ahead of them.
func TestTurnedOrder(t *testing.T) {
	for depth := range 8 {
		for below := range depth + 1 {
			s, p := made[int](t, depth), &pile[int]{depth: depth}
			for i := range below {
				push(t, s, -i)
				p.push(-i)
			}
			for i := below; i < depth; i++ {
				push(t, s, 10+i)
			}
			p.high = depth
			for i := depth - 1; i >= below; i-- {
				pops(t, s, 10+i)
			}
			stands(t, s, p, 10, 11)
		}
	}
	s := made[int](t, api.MaxStack)
	for i := range api.MaxStack {
		push(t, s, i)
	}
	for i := api.MaxStack - 1; i >= 0; i-- {
		pops(t, s, i)
	}
	holds(t, s, api.MaxStack, api.MaxStack)
}

// P14.7: Push and then Pop leave all as it was, but High.
func TestPushThenPop(t *testing.T) {
	s, p := made[int](t, 4), &pile[int]{depth: 4}
	for n := range 5 {
		for range 3 {
			e, want := s.Push(99), p.push(99)
			if e != want {
				t.Fatalf("Push: %d, not %d", e, want)
			}
			if e == api.OK {
				pops(t, s, 99)
				p.pop()
			}
			stands(t, s, p, 99)
		}
		if n < 4 {
			push(t, s, n)
			p.push(n)
		}
	}
}

// R1: a stack that is nil, or that no call made.
func TestNoStack(t *testing.T) {
	for _, s := range []*stack.Stack[string]{nil, {}, new(stack.Stack[string])} {
		for range 2 {
			if e := s.Push("a"); e != api.ErrNil {
				t.Errorf("Push: %d", e)
			}
			popsNothing(t, s, api.ErrNil)
			for _, n := range []int{-1, 0, 1, math.MinInt, math.MaxInt} {
				cutsNothing(t, s, n, api.ErrNil)
			}
			holds(t, s, 0, 0)
			finds(t, s, "", 0, false)
			finds(t, s, "a", 0, false)
			if s.Copy() != nil {
				t.Error("a copy of none")
			}
			all := s.All()
			if all == nil {
				t.Fatal("All: no iterator")
			}
			for v := range all {
				t.Errorf("All: %q", v)
			}
		}
	}
}

// R2: a call that is refused changes nothing.
func TestRefusedChangesNothing(t *testing.T) {
	s := of(t, 2, 1, 2)
	for range 5 {
		if s.Push(9) != api.ErrOverflow {
			t.Error("it is full")
		}
		cutsNothing(t, s, 3, api.ErrUnderflow)
		cutsNothing(t, s, -1, api.ErrArg)
		finds(t, s, 9, 0, false)
		holds(t, s, 2, 2, 2, 1)
	}
	pops(t, s, 2, 1)
	for range 5 {
		popsNothing(t, s, api.ErrUnderflow)
		cutsNothing(t, s, 1, api.ErrUnderflow)
		holds(t, s, 2, 2)
	}
	push(t, s, 4, 5)
	holds(t, s, 2, 2, 5, 4)
}

// R4: stacks made by several calls know nothing of one another.
func TestStacksApart(t *testing.T) {
	a, b, c := of(t, 2, 1, 2), of(t, 3, 7), of(t, 2, "x")
	holds(t, a, 2, 2, 2, 1)
	holds(t, b, 3, 1, 7)
	holds(t, c, 2, 1, "x")
	cuts(t, a, 0, 2, 1)
	holds(t, b, 3, 1, 7)
	stack.New[int](-1)
	holds(t, a, 2, 2)
}
