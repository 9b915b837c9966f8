package ready_test

import (
	"math"
	"slices"
	"testing"

	"tappet/api"
	"tappet/ready"
)

// P13.1: no row at all makes a queue without a ring, which is one that New gave.
func TestNoRows(t *testing.T) {
	for _, l := range [][]api.RingRow{nil, {}} {
		q := madeOf(t, l)
		for range 2 {
			stands(t, q, newPlain(nil))
			for p := -1; p <= 64; p++ {
				nowhere(t, q, p, api.ErrPriority)
			}
			takesNothing(t, q, api.ErrEmpty)
			if q.Clear() != 0 {
				t.Error("Clear")
			}
			if q = q.Copy(); q == nil {
				t.Fatal("Copy: nil")
			}
		}
	}
}

// P13.1: each priority alone, and none beside them.
func TestOneRow(t *testing.T) {
	for p := -3; p <= 70; p++ {
		l := rows([2]int{p, 1})
		if p < 0 || p > 63 {
			refused(t, l)
			continue
		}
		q, w := madeOf(t, l), newPlain(l)
		stands(t, q, w)
		for at := -1; at <= 64; at++ {
			if a, b := q.Tail(at, at), w.put(at, at, true); a != b {
				t.Errorf("the ring %d: Tail(%d): %d", p, at, a)
			}
		}
		stands(t, q, w)
	}
	for _, p := range []int{math.MinInt, math.MinInt + 1, -1 << 32, -64, 128, 1 << 32, 1<<32 + 5, 1<<63 - 64, math.MaxInt} {
		refused(t, rows([2]int{p, 1}))
	}
}

// P13.1: each pair of priorities: just those that fall.
func TestTwoRows(t *testing.T) {
	for p := -1; p <= 64; p++ {
		for r := -1; r <= 64; r++ {
			l := rows([2]int{p, 1}, [2]int{r, 2})
			if p > 63 || r < 0 || r >= p {
				refused(t, l)
				continue
			}
			q := madeOf(t, l)
			tail(t, q, r, 1, 2)
			tail(t, q, p, 3)
			nowhere(t, q, p, api.ErrFull)
			nowhere(t, q, r, api.ErrFull)
			holds(t, q, [2]int{p, 3}, [2]int{r, 1}, [2]int{r, 2})
		}
	}
}

// P13.1: capacities from 1 to MaxRing, and none beside them; a queue has just that much room.
func TestCapacities(t *testing.T) {
	for _, n := range []int{1, 2, 3, 255, 256, 65535, api.MaxRing} {
		q := made(t, [2]int{5, n})
		for i := range n {
			if e := q.Tail(5, i); e != api.OK {
				t.Fatalf("Tail of %d: %d", i, e)
			}
		}
		nowhere(t, q, 5, api.ErrFull)
		if q.Len() != n || q.High(5) != n || len(q.Ring(5)) != n {
			t.Errorf("of %d: %d", n, q.Len())
		}
		for i := range n {
			takes(t, q, 5, i)
		}
		takesNothing(t, q, api.ErrEmpty)
	}
	for _, n := range []int{0, -1, -65536, math.MinInt, api.MaxRing + 1, 2 * api.MaxRing, 1 << 32, 1<<32 + 1, math.MaxInt} {
		refused(t, rows([2]int{5, n}))
	}
}

// P13.1: a row of as many rings as may be, whole and with one thing wrong in it at each place.
func TestAllRings(t *testing.T) {
	var whole []api.RingRow
	for p := 63; p >= 0; p-- {
		whole = append(whole, api.RingRow{Priority: p, Capacity: 1 + p%3})
	}
	q, w := madeOf(t, whole), newPlain(whole)
	stands(t, q, w)
	for n := range 200 {
		if p := n * 7 % 64; q.Tail(p, n) != w.put(p, n, true) {
			t.Error("Tail at", p)
		}
	}
	stands(t, q, w)
	if q.Bits() != math.MaxUint64 {
		t.Errorf("Bits: %b", q.Bits())
	}

	for i := range whole {
		for _, bad := range []api.RingRow{
			{Priority: whole[i].Priority, Capacity: 0},
			{Priority: whole[i].Priority, Capacity: -1},
			{Priority: whole[i].Priority, Capacity: api.MaxRing + 1},
			{Priority: whole[i].Priority - 1, Capacity: 1},
			{Priority: whole[i].Priority + 1, Capacity: 1},
			{Priority: -1, Capacity: 1},
			{Priority: 64, Capacity: 1},
		} {
			l := slices.Clone(whole)
			l[i] = bad
			refused(t, l)
		}
		refused(t, slices.Insert(slices.Clone(whole), i, whole[i]))
		less := slices.Delete(slices.Clone(whole), i, i+1)
		stands(t, madeOf(t, less), newPlain(less))
		nowhere(t, madeOf(t, less), whole[i].Priority, api.ErrPriority)
	}
	refused(t, append(slices.Clone(whole), api.RingRow{Priority: -1, Capacity: 1}))
}

// P13.1: every row of up to four rings among a few priorities and capacities at the edges.
func TestEveryShortRow(t *testing.T) {
	kinds := rows([2]int{-1, 1}, [2]int{0, 1}, [2]int{0, 0}, [2]int{1, 2}, [2]int{31, 1}, [2]int{62, 65536}, [2]int{62, 65537}, [2]int{63, 1}, [2]int{64, 1})
	fits := func(l []api.RingRow) bool {
		for i, r := range l {
			if r.Priority < 0 || r.Priority > 63 || r.Capacity < 1 || r.Capacity > 65536 {
				return false
			}
			if i > 0 && l[i-1].Priority <= r.Priority {
				return false
			}
		}
		return true
	}
	taken := 0
	var each func(l []api.RingRow)
	each = func(l []api.RingRow) {
		if fits(l) {
			taken++
			stands(t, madeOf(t, l), newPlain(l))
		} else {
			refused(t, l)
		}
		if len(l) == 4 {
			return
		}
		for _, k := range kinds {
			each(append(slices.Clone(l), k))
		}
	}
	each(nil)
	if taken != 1+5+10+10+5 {
		t.Error("taken:", taken)
	}
}

// R3: the rows that are handed in are not kept and not changed.
func TestRowsNotKept(t *testing.T) {
	l := rows([2]int{9, 2}, [2]int{4, 1})
	kept := slices.Clone(l)
	q := madeOf(t, l)
	if !slices.Equal(l, kept) {
		t.Error("changed:", l)
	}
	l[0], l[1] = api.RingRow{Priority: 1, Capacity: 5}, api.RingRow{}
	stands(t, q, newPlain(kept))
	tail(t, q, 9, 1, 2)
	nowhere(t, q, 9, api.ErrFull)
	nowhere(t, q, 1, api.ErrPriority)
}

// R4: queues made by several calls know nothing of one another.
func TestQueuesApart(t *testing.T) {
	l := rows([2]int{2, 2}, [2]int{1, 2})
	a, b := madeOf(t, l), madeOf(t, l)
	tail(t, a, 2, 1, 2)
	head(t, b, 1, 3)
	holds(t, a, [2]int{2, 1}, [2]int{2, 2})
	holds(t, b, [2]int{1, 3})
	ready.New(rows([2]int{1, 0}))
	a.Clear()
	holds(t, a)
	holds(t, b, [2]int{1, 3})
	if a.High(2) != 2 || b.High(2) != 0 {
		t.Error("High:", a.High(2), b.High(2))
	}
}
