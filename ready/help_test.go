package ready_test

import (
	"slices"
	"testing"

	"tappet/api"
	"tappet/ready"
)

// plain reads the chapter a second time: one list of all ids in the order of taking, with no ring and no bitmap.
type plain struct {
	room, high map[int]int // by priority
	list       []api.Queued
}

func newPlain(rows []api.RingRow) *plain {
	w := &plain{room: map[int]int{}, high: map[int]int{}}
	for _, r := range rows {
		w.room[r.Priority] = r.Capacity
	}
	return w
}

func (w *plain) ring(p int) []int {
	var l []int
	for _, x := range w.list {
		if x.Priority == p {
			l = append(l, x.ID)
		}
	}
	return l
}

// put: the place is behind all that are above, and, at the tail, behind those of the same priority, too.
func (w *plain) put(p, id int, tail bool) api.Errno {
	room, ok := w.room[p]
	if !ok {
		return api.ErrPriority
	}
	if len(w.ring(p)) == room {
		return api.ErrFull
	}
	place := 0
	for _, x := range w.list {
		if x.Priority > p || tail && x.Priority == p {
			place++
		}
	}
	w.list = slices.Insert(slices.Clone(w.list), place, api.Queued{Priority: p, ID: id})
	w.high[p] = max(w.high[p], len(w.ring(p)))
	return api.OK
}

func (w *plain) take() (api.Queued, api.Errno) {
	if len(w.list) == 0 {
		return api.Queued{}, api.ErrEmpty
	}
	x := w.list[0]
	w.list = slices.Clone(w.list[1:])
	return x, api.OK
}

func (w *plain) clear() int {
	n := len(w.list)
	w.list = nil
	return n
}

func (w *plain) copy() *plain {
	c := &plain{room: w.room, high: map[int]int{}, list: slices.Clone(w.list)}
	for p, n := range w.high {
		c.high[p] = n
	}
	return c
}

func (w *plain) bits() uint64 {
	var b uint64
	for _, x := range w.list {
		b |= 1 << x.Priority
	}
	return b
}

// stands: a queue is told by all that can be asked of it as the list is.
func stands(t *testing.T, q *ready.Queue, w *plain) {
	t.Helper()
	if q.Len() != len(w.list) || q.Bits() != w.bits() {
		t.Fatalf("Len %d, Bits %b; not as %v", q.Len(), q.Bits(), *w)
	}
	p, ok := q.Highest()
	if there := len(w.list) > 0; ok != there || !there && p != 0 || there && p != w.list[0].Priority {
		t.Fatalf("Highest: %d %v; not as %v", p, ok, w.list)
	}
	for p := -1; p <= api.MaxPriority+1; p++ {
		if l := q.Ring(p); !slices.Equal(l, w.ring(p)) || q.High(p) != w.high[p] {
			t.Fatalf("Ring(%d): %v, High %d; not as %v", p, l, q.High(p), *w)
		}
	}
	if l := slices.Collect(q.All()); !slices.Equal(l, w.list) {
		t.Fatalf("All: %v, not %v", l, w.list)
	}
}

// rows of two numbers each: a priority, a capacity.
func rows(l ...[2]int) []api.RingRow {
	var out []api.RingRow
	for _, x := range l {
		out = append(out, api.RingRow{Priority: x[0], Capacity: x[1]})
	}
	return out
}

func made(t *testing.T, l ...[2]int) *ready.Queue {
	t.Helper()
	return madeOf(t, rows(l...))
}

func madeOf(t *testing.T, l []api.RingRow) *ready.Queue {
	t.Helper()
	q, e := ready.New(l)
	if e != api.OK || q == nil {
		t.Fatalf("New(%v): %v, %d", l, q, e)
	}
	return q
}

func refused(t *testing.T, l []api.RingRow) {
	t.Helper()
	if q, e := ready.New(l); e != api.ErrRings || q != nil {
		t.Fatalf("New(%v): %v, %d", l, q, e)
	}
}

func tail(t *testing.T, q *ready.Queue, p int, ids ...int) {
	t.Helper()
	for _, id := range ids {
		if e := q.Tail(p, id); e != api.OK {
			t.Fatalf("Tail(%d, %d): %d", p, id, e)
		}
	}
}

func head(t *testing.T, q *ready.Queue, p int, ids ...int) {
	t.Helper()
	for _, id := range ids {
		if e := q.Head(p, id); e != api.OK {
			t.Fatalf("Head(%d, %d): %d", p, id, e)
		}
	}
}

// nowhere: neither Tail nor Head puts an id there.
func nowhere(t *testing.T, q *ready.Queue, p int, want api.Errno) {
	t.Helper()
	if a, b := q.Tail(p, 77), q.Head(p, 78); a != want || b != want {
		t.Errorf("at %d: Tail %d, Head %d, not %d", p, a, b, want)
	}
}

// takes: ids of one priority, one behind the other.
func takes(t *testing.T, q *ready.Queue, p int, ids ...int) {
	t.Helper()
	for _, id := range ids {
		if x, e := q.Take(); x != (api.Queued{Priority: p, ID: id}) || e != api.OK {
			t.Fatalf("Take: %v %d, not {%d %d}", x, e, p, id)
		}
	}
}

func takesNothing(t *testing.T, q *ready.Queue, want api.Errno) {
	t.Helper()
	if x, e := q.Take(); x != (api.Queued{}) || e != want {
		t.Errorf("Take: %v %d, not %d", x, e, want)
	}
}

// holds: just these, as pairs of a priority and an id, in the order of taking.
func holds(t *testing.T, q *ready.Queue, l ...[2]int) {
	t.Helper()
	var want []api.Queued
	for _, x := range l {
		want = append(want, api.Queued{Priority: x[0], ID: x[1]})
	}
	w := &plain{list: want}
	if got := slices.Collect(q.All()); !slices.Equal(got, want) || q.Len() != len(want) || q.Bits() != w.bits() {
		t.Errorf("All %v, Len %d, Bits %b; not %v", got, q.Len(), q.Bits(), want)
	}
}

// chance gives numbers that are the same in each run.
type chance uint64

func (c *chance) below(n int) int {
	*c = *c*6364136223846793005 + 1442695040888963407
	return int(uint64(*c>>33) % uint64(n))
}
