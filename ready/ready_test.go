package ready_test

import (
	"math"
	"slices"
	"testing"

	"tappet/api"
	"tappet/ready"
)

// P13.2: behind all others of the priority, ahead of all others of it.
func TestTailAndHead(t *testing.T) {
	q := made(t, [2]int{6, 4}, [2]int{2, 5})
	tail(t, q, 2, 3)
	tail(t, q, 2, 4)
	head(t, q, 2, 2)
	head(t, q, 2, 1)
	tail(t, q, 2, 5)
	head(t, q, 6, 20)
	tail(t, q, 6, 30)
	head(t, q, 6, 10)
	if l := q.Ring(2); !slices.Equal(l, []int{1, 2, 3, 4, 5}) {
		t.Error("Ring(2):", l)
	}
	if l := q.Ring(6); !slices.Equal(l, []int{10, 20, 30}) {
		t.Error("Ring(6):", l)
	}
	takes(t, q, 6, 10, 20, 30)
	takes(t, q, 2, 1, 2, 3, 4, 5)
}

// P13.2: any id may stand there, any number of times.
func TestAnyID(t *testing.T) {
	q := made(t, [2]int{1, 6}, [2]int{0, 2})
	ids := []int{-1, math.MaxInt, math.MinInt, 5, 5, 5}
	tail(t, q, 1, ids...)
	tail(t, q, 0, 5, 5)
	if l := q.Ring(1); !slices.Equal(l, ids) {
		t.Error("Ring:", l)
	}
	takes(t, q, 1, ids...)
	takes(t, q, 0, 5, 5)
	head(t, q, 0, 0, 0)
	holds(t, q, [2]int{0, 0}, [2]int{0, 0})
}

// P13.2: no ring of the priority, whichever number it is; nothing is changed.
func TestNoSuchRing(t *testing.T) {
	q := made(t, [2]int{63, 1}, [2]int{5, 1}, [2]int{0, 1})
	tail(t, q, 5, 1)
	for p := 1; p < 63; p++ {
		if p != 5 {
			nowhere(t, q, p, api.ErrPriority)
		}
	}
	for _, p := range []int{-1, -59, -64, 64, 69, 127, 128, 1 << 32, 1<<32 + 63, 1<<62 + 5, math.MinInt, math.MaxInt} {
		nowhere(t, q, p, api.ErrPriority)
		if len(q.Ring(p)) != 0 || q.High(p) != 0 {
			t.Errorf("of %d: Ring %v, High %d", p, q.Ring(p), q.High(p))
		}
	}
	holds(t, q, [2]int{5, 1})
}

// P13.2: a ring that is full, wherever in its room the row begins, while others are not; one is taken, and there is room again.
func TestFull(t *testing.T) {
	for begin := range 4 {
		q := made(t, [2]int{8, 3}, [2]int{7, 3})
		for i := range begin {
			tail(t, q, 8, i)
			takes(t, q, 8, i)
		}
		tail(t, q, 8, 1, 2)
		head(t, q, 8, 0)
		for range 3 {
			nowhere(t, q, 8, api.ErrFull)
			holds(t, q, [2]int{8, 0}, [2]int{8, 1}, [2]int{8, 2})
		}
		tail(t, q, 7, 4)
		takes(t, q, 8, 0)
		head(t, q, 8, 9)
		nowhere(t, q, 8, api.ErrFull)
		takes(t, q, 8, 9, 1, 2)
		takes(t, q, 7, 4)
		takesNothing(t, q, api.ErrEmpty)
	}
}

// P13.3: the first of the greatest priority that is not empty, which is there no more; then there is none.
func TestTake(t *testing.T) {
	q := made(t, [2]int{63, 2}, [2]int{32, 2}, [2]int{31, 2}, [2]int{0, 2})
	takesNothing(t, q, api.ErrEmpty)
	for _, p := range []int{0, 32, 63, 31} {
		tail(t, q, p, p+100, p+200)
	}
	takes(t, q, 63, 163)
	holds(t, q, [2]int{63, 263}, [2]int{32, 132}, [2]int{32, 232}, [2]int{31, 131}, [2]int{31, 231}, [2]int{0, 100}, [2]int{0, 200})
	takes(t, q, 63, 263)
	takes(t, q, 32, 132)
	tail(t, q, 63, 1)
	takes(t, q, 63, 1)
	takes(t, q, 32, 232)
	takes(t, q, 31, 131, 231)
	takes(t, q, 0, 100, 200)
	takesNothing(t, q, api.ErrEmpty)
	takesNothing(t, q, api.ErrEmpty)
	holds(t, q)
}

// P13.3, P13.4: the greatest priority and its bit, for each pair of priorities; a priority 0 that is there is not the 0 of nothing.
func TestHighestAndBits(t *testing.T) {
	var all []api.RingRow
	for p := 63; p >= 0; p-- {
		all = append(all, api.RingRow{Priority: p, Capacity: 2})
	}
	q := madeOf(t, all)
	told := func(want int, there bool, bits uint64) {
		t.Helper()
		if p, ok := q.Highest(); p != want || ok != there || q.Bits() != bits {
			t.Fatalf("Highest %d %v, Bits %b; not %d, %b", p, ok, q.Bits(), want, bits)
		}
	}
	told(0, false, 0)
	for p := range 64 {
		head(t, q, p, 1)
		told(p, true, 1<<p)
		for r := range 64 {
			tail(t, q, r, 2)
			told(max(p, r), true, 1<<p|1<<r)
			if r < p {
				takes(t, q, p, 1)
				told(r, true, 1<<r)
				takes(t, q, r, 2)
				head(t, q, p, 1)
			} else if r == p {
				takes(t, q, p, 1)
				told(p, true, 1<<p)
				takes(t, q, p, 2)
				head(t, q, p, 1)
			} else {
				takes(t, q, r, 2)
			}
			told(p, true, 1<<p)
		}
		q.Clear()
		told(0, false, 0)
	}
}

// P13.4: a ring's ids are the caller's own.
func TestRingIsOwn(t *testing.T) {
	q := made(t, [2]int{3, 3})
	tail(t, q, 3, 1, 2)
	l := q.Ring(3)
	l[0] = 9
	l = append(l, 10, 11)
	l[1] = 8
	holds(t, q, [2]int{3, 1}, [2]int{3, 2})
	a, b := q.Ring(3), q.Ring(3)
	a[0] = 7
	q.Clear()
	if !slices.Equal(b, []int{1, 2}) || len(l) != 4 {
		t.Error("Ring:", b)
	}
}

// P13.4: the most at one time in each ring, neither what was put in all nor its room; what was refused does not count.
func TestHigh(t *testing.T) {
	q := made(t, [2]int{5, 4}, [2]int{4, 4})
	high := func(five, four int) {
		t.Helper()
		if q.High(5) != five || q.High(4) != four {
			t.Fatalf("High: %d %d, not %d %d", q.High(5), q.High(4), five, four)
		}
	}
	high(0, 0)
	for range 9 {
		tail(t, q, 5, 1)
		takes(t, q, 5, 1)
	}
	high(1, 0)
	tail(t, q, 4, 1)
	head(t, q, 4, 2)
	high(1, 2)
	q.Take()
	tail(t, q, 5, 1, 2, 3)
	high(3, 2)
	q.Clear()
	high(3, 2)
	head(t, q, 5, 1)
	high(3, 2)
	tail(t, q, 5, 1, 2, 3)
	nowhere(t, q, 5, api.ErrFull)
	high(4, 2)
}

// P13.4: how many there are, and were when all is cleared; the room is all there again.
func TestLenAndClear(t *testing.T) {
	q := made(t, [2]int{63, 2}, [2]int{7, 3}, [2]int{0, 2})
	for n := range 8 {
		for i := range n {
			p := []int{7, 0, 63, 7, 63, 0, 7}[i]
			tail(t, q, p, i)
			if q.Len() != i+1 {
				t.Error("Len:", q.Len(), i+1)
			}
		}
		if got := q.Clear(); got != n {
			t.Errorf("Clear: %d, not %d", got, n)
		}
		holds(t, q)
		if p, ok := q.Highest(); p != 0 || ok {
			t.Error("Highest:", p, ok)
		}
		takesNothing(t, q, api.ErrEmpty)
		if got := q.Clear(); got != 0 {
			t.Errorf("Clear again: %d", got)
		}
	}
	tail(t, q, 7, 1, 2, 3)
	nowhere(t, q, 7, api.ErrFull)
	holds(t, q, [2]int{7, 1}, [2]int{7, 2}, [2]int{7, 3})
}

// P13.4: a copy is alike in all, and goes its own way; so does the other.
func TestCopy(t *testing.T) {
	q := made(t, [2]int{9, 3}, [2]int{3, 3}, [2]int{1, 1})
	tail(t, q, 3, 0, 1, 2)
	tail(t, q, 9, 5)
	takes(t, q, 9, 5)
	takes(t, q, 3, 0)
	c := q.Copy()
	holds(t, c, [2]int{3, 1}, [2]int{3, 2})
	if c.High(9) != 1 || c.High(3) != 3 || c.High(1) != 0 {
		t.Error("High:", c.High(9), c.High(3), c.High(1))
	}
	nowhere(t, c, 2, api.ErrPriority)

	head(t, c, 3, 7)
	tail(t, c, 9, 8, 8)
	nowhere(t, c, 3, api.ErrFull)
	holds(t, q, [2]int{3, 1}, [2]int{3, 2})
	holds(t, c, [2]int{9, 8}, [2]int{9, 8}, [2]int{3, 7}, [2]int{3, 1}, [2]int{3, 2})
	tail(t, q, 1, 4)
	nowhere(t, q, 1, api.ErrFull)
	q.Clear()
	holds(t, c, [2]int{9, 8}, [2]int{9, 8}, [2]int{3, 7}, [2]int{3, 1}, [2]int{3, 2})
	tail(t, c, 1, 6)
	if q.High(9) != 1 || c.High(9) != 2 || q.High(1) != 1 || c.High(1) != 1 {
		t.Error("High of each:", q.High(9), c.High(9), q.High(1), c.High(1))
	}
	holds(t, c.Copy().Copy(), [2]int{9, 8}, [2]int{9, 8}, [2]int{3, 7}, [2]int{3, 1}, [2]int{3, 2}, [2]int{1, 6})
}

// P13.5: by falling priority, those of one priority as they came, in whatever order they were put in by Tail.
func TestTakenInOrder(t *testing.T) {
	c := chance(5)
	for range 300 {
		var l []api.RingRow
		for p := 63; p >= 0; p-- {
			if c.below(8) == 0 {
				l = append(l, api.RingRow{Priority: p, Capacity: 1 + c.below(6)})
			}
		}
		q := madeOf(t, l)
		var came []api.Queued
		for id := range 40 {
			if len(l) == 0 {
				break
			}
			p := l[c.below(len(l))].Priority
			if q.Tail(p, id) == api.OK {
				came = append(came, api.Queued{Priority: p, ID: id})
			}
		}
		slices.SortStableFunc(came, func(a, b api.Queued) int { return b.Priority - a.Priority })
		for i, want := range came {
			if q.Len() != len(came)-i {
				t.Fatal("Len:", q.Len())
			}
			takes(t, q, want.Priority, want.ID)
		}
		takesNothing(t, q, api.ErrEmpty)
	}
}

// P13.5: Take then Head of what it gave leaves all as it was, High too, of a full ring as well.
func TestTakeThenHead(t *testing.T) {
	c := chance(9)
	l := rows([2]int{63, 2}, [2]int{40, 1}, [2]int{2, 4}, [2]int{0, 3})
	for range 500 {
		q, w := madeOf(t, l), newPlain(l)
		for id := range c.below(25) {
			if p := l[c.below(4)].Priority; c.below(4) == 0 {
				q.Take()
				w.take()
			} else if tail := c.below(2) == 0; tail {
				q.Tail(p, id)
				w.put(p, id, true)
			} else {
				q.Head(p, id)
				w.put(p, id, false)
			}
		}
		for range 3 {
			x, e := q.Take()
			if e != api.OK {
				break
			}
			head(t, q, x.Priority, x.ID)
			stands(t, q, w)
		}
		stands(t, q, w)
	}
}

// R1: a queue that is nil, or that no call made: nothing there, and nothing comes there.
func TestNoQueue(t *testing.T) {
	var zero ready.Queue
	for _, q := range []*ready.Queue{nil, {}, new(ready.Queue), &zero} {
		for range 2 {
			for _, p := range []int{-1, 0, 1, 63, 64, math.MinInt, math.MaxInt} {
				nowhere(t, q, p, api.ErrNil)
				if len(q.Ring(p)) != 0 || q.High(p) != 0 {
					t.Errorf("of %d: Ring %v, High %d", p, q.Ring(p), q.High(p))
				}
			}
			takesNothing(t, q, api.ErrNil)
			if p, ok := q.Highest(); p != 0 || ok {
				t.Error("Highest:", p, ok)
			}
			if q.Bits() != 0 || q.Len() != 0 || q.Clear() != 0 || q.Copy() != nil {
				t.Error("something is told of no queue")
			}
			all := q.All()
			if all == nil {
				t.Fatal("All: nil")
			}
			for range 2 {
				for x := range all {
					t.Error("All:", x)
				}
			}
		}
	}
}
