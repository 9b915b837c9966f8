package ring_test

import (
	"math"
	"slices"
	"testing"

	"tappet/api"
	"tappet/ring"
)

// P12.1: each room from 0 to MaxRing, and none beside them.
func TestNew(t *testing.T) {
	for _, room := range []int{0, 1, 2, 3, 255, 256, 4095, 65535, api.MaxRing} {
		holds(t, made[int](t, room), room, 0)
	}
	for _, room := range []int{-1, -2, -65536, math.MinInt, api.MaxRing + 1, 2 * api.MaxRing, 1 << 32, math.MaxInt} {
		if r, e := ring.New[string](room); r != nil || e != api.ErrRoom {
			t.Errorf("New(%d): %v, %d", room, r, e)
		}
	}
	if api.MaxRing != 65536 || api.ErrRoom != 120 || api.ErrNoRoom != 121 || api.ErrNothing != 122 {
		t.Error("the chapter's numbers")
	}
}

// P12.2: behind all others, and ahead of all others.
func TestLastAndFirst(t *testing.T) {
	r := made[string](t, 5)
	last(t, r, "c")
	holds(t, r, 5, 1, "c")
	last(t, r, "d")
	holds(t, r, 5, 2, "c", "d")
	first(t, r, "b")
	holds(t, r, 5, 3, "b", "c", "d")
	last(t, r, "e")
	first(t, r, "a")
	holds(t, r, 5, 5, "a", "b", "c", "d", "e")
	takes(t, r, "a", "b", "c", "d", "e")

	r = made[string](t, 3)
	first(t, r, "a", "b", "c")
	holds(t, r, 3, 3, "c", "b", "a")
}

// P12.2: nothing is put into a ring that is full, wherever in its room the row begins; it takes things again when one was taken.
func TestNoRoom(t *testing.T) {
	for room := range 5 {
		for begin := range room + 1 {
			r, w := made[int](t, room), &row[int]{room: room}
			for i := range begin {
				last(t, r, i)
				takes(t, r, i)
			}
			for i := range room {
				last(t, r, i+10)
				w.put(i, i+10)
			}
			if begin > 0 {
				w.high = max(w.high, 1)
			}
			for range 3 {
				if a, b := r.Last(7), r.First(8); a != api.ErrNoRoom || b != api.ErrNoRoom {
					t.Errorf("room %d: Last %d, First %d", room, a, b)
				}
				stands(t, r, w)
			}
			if room > 0 {
				takes(t, r, 10)
				last(t, r, 99)
				w.take()
				w.put(room-1, 99)
				stands(t, r, w)
			}
		}
	}
}

// P12.3: the first thing, which is no more in the row; then there is none.
func TestTake(t *testing.T) {
	r := made[int](t, 3)
	takesNothing(t, r, api.ErrNothing)
	holds(t, r, 3, 0)
	last(t, r, 1, 2, 3)
	takes(t, r, 1)
	holds(t, r, 3, 3, 2, 3)
	takes(t, r, 2)
	holds(t, r, 3, 3, 3)
	takes(t, r, 3)
	takesNothing(t, r, api.ErrNothing)
	takesNothing(t, r, api.ErrNothing)
	holds(t, r, 3, 3)
	takesNothing(t, made[string](t, 0), api.ErrNothing)
}

// P12.4: places at which nothing stands.
func TestAtNothing(t *testing.T) {
	r := made[string](t, 4)
	last(t, r, "x", "a", "b")
	takes(t, r, "x")
	for _, i := range []int{-1, -4, math.MinInt, 2, 3, 4, 5, 6, math.MaxInt} {
		if v, ok := r.At(i); v != "" || ok {
			t.Errorf("At(%d): %q %v", i, v, ok)
		}
	}
	for i, want := range []string{"a", "b"} {
		if v, ok := r.At(i); v != want || !ok {
			t.Errorf("At(%d): %q %v", i, v, ok)
		}
	}
	for _, i := range []int{-1, 0, 1} {
		if v, ok := made[string](t, 0).At(i); v != "" || ok {
			t.Errorf("At(%d) of no room: %q %v", i, v, ok)
		}
	}
}

// P12.4: the greatest number that there was, not the number of things put, nor the room; what was refused does not count.
func TestHigh(t *testing.T) {
	r := made[int](t, 4)
	for i := range 9 {
		last(t, r, i)
		takes(t, r, i)
	}
	holds(t, r, 4, 1)
	last(t, r, 1)
	first(t, r, 0)
	takes(t, r, 0)
	holds(t, r, 4, 2, 1)
	last(t, r, 2, 3)
	r.Clear()
	holds(t, r, 4, 3)
	first(t, r, 1)
	holds(t, r, 4, 3, 1)
	last(t, r, 2, 3, 4)
	r.Last(5)
	r.First(5)
	holds(t, r, 4, 4, 1, 2, 3, 4)
}

// P12.5: what there is when the ranging begins, which need not be when All is called; again, and left early.
func TestAll(t *testing.T) {
	r := made[int](t, 4)
	all := r.All()
	if l := slices.Collect(all); len(l) != 0 {
		t.Error("of nothing:", l)
	}
	last(t, r, 1, 2)
	first(t, r, 0)
	for range 2 {
		if l := slices.Collect(all); !slices.Equal(l, []int{0, 1, 2}) {
			t.Error("again:", l)
		}
	}
	for stop := range 4 {
		var seen []int
		for v := range all {
			if len(seen) == stop {
				break
			}
			seen = append(seen, v)
		}
		if !slices.Equal(seen, []int{0, 1, 2}[:stop]) {
			t.Errorf("left behind %d: %v", stop, seen)
		}
	}
	takes(t, r, 0, 1)
	last(t, r, 5, 6, 7)
	if l := slices.Collect(all); !slices.Equal(l, []int{2, 5, 6, 7}) {
		t.Error("round the room's end:", l)
	}
	holds(t, r, 4, 4, 2, 5, 6, 7)
}

// P12.5: whatever is done to the ring meanwhile, also by ranging within.
func TestAllMeanwhile(t *testing.T) {
	for name, do := range map[string]func(r *ring.Ring[int]){
		"Last":   func(r *ring.Ring[int]) { r.Last(9) },
		"First":  func(r *ring.Ring[int]) { r.First(9) },
		"Take":   func(r *ring.Ring[int]) { r.Take() },
		"turn":   func(r *ring.Ring[int]) { r.Take(); r.Last(9) },
		"refill": func(r *ring.Ring[int]) { r.Clear(); r.Last(9); r.Last(9); r.Last(9); r.Last(9) },
		"Clear":  func(r *ring.Ring[int]) { r.Clear() },
	} {
		r := made[int](t, 4)
		last(t, r, 8, 0, 1)
		takes(t, r, 8)
		last(t, r, 2)
		var seen, within []int
		for v := range r.All() {
			seen = append(seen, v)
			do(r)
			now := slices.Collect(r.All())
			within = within[:0]
			for v := range r.All() {
				within = append(within, v)
				do(r)
			}
			if !slices.Equal(now, within) {
				t.Errorf("%s: within %v, not %v", name, within, now)
			}
		}
		if !slices.Equal(seen, []int{0, 1, 2}) {
			t.Errorf("%s: %v", name, seen)
		}
	}
}

// P12.6: Clear, wherever the row lies; how many there were; the room is all there again.
func TestClear(t *testing.T) {
	for begin := range 4 {
		for count := range 5 {
			r := made[int](t, 4)
			for i := range begin {
				last(t, r, i)
				takes(t, r, i)
			}
			for i := range count {
				last(t, r, i)
			}
			high := max(min(begin, 1), count)
			if n := r.Clear(); n != count {
				t.Errorf("Clear: %d, not %d", n, count)
			}
			holds(t, r, 4, high)
			takesNothing(t, r, api.ErrNothing)
			if n := r.Clear(); n != 0 {
				t.Errorf("Clear again: %d", n)
			}
			last(t, r, 5, 6)
			first(t, r, 4, 3)
			holds(t, r, 4, 4, 3, 4, 5, 6)
		}
	}
	if n := made[int](t, 0).Clear(); n != 0 {
		t.Errorf("Clear of no room: %d", n)
	}
}

// P12.6: Copy, wherever the row lies; the two know nothing of one another.
func TestCopy(t *testing.T) {
	for begin := range 4 {
		for count := range 5 {
			r, w := made[int](t, 4), &row[int]{room: 4, high: min(begin, 1)}
			for i := range begin {
				last(t, r, i)
				takes(t, r, i)
			}
			for i := range count {
				last(t, r, i)
				w.put(i, i)
			}
			c := r.Copy()
			stands(t, c, w)
			stands(t, r, w)
			kept := w.copy()
			if c.First(7) != w.put(0, 7) || c.Last(8) != w.put(len(w.list), 8) {
				t.Error("put into a copy")
			}
			stands(t, c, w)
			stands(t, r, kept)
			r.Clear()
			stands(t, c, w)
		}
	}
	c := made[int](t, 0).Copy()
	holds(t, c, 0, 0)
	if c.Last(1) != api.ErrNoRoom {
		t.Error("a copy of no room")
	}
}

// P12.4, P12.6: a copy begins with the High of the other, which may be more than it holds; then each has its own.
func TestHighOfCopies(t *testing.T) {
	r := made[int](t, 5)
	last(t, r, 1, 2, 3)
	takes(t, r, 1, 2)
	c := r.Copy()
	holds(t, c, 5, 3, 3)
	last(t, c, 4, 5, 6)
	holds(t, c, 5, 4, 3, 4, 5, 6)
	holds(t, r, 5, 3, 3)
	holds(t, r.Copy().Copy(), 5, 3, 3)
	last(t, r, 4, 5, 6, 7)
	holds(t, r, 5, 5, 3, 4, 5, 6, 7)
	holds(t, c, 5, 4, 3, 4, 5, 6)
}

// P12.7: in the order in which they came, many times round the room.
func TestInOrder(t *testing.T) {
	for room := 1; room <= 6; room++ {
		r := made[int](t, room)
		came, went := 0, 0
		for n := range 60 {
			for range 1 + n%room {
				if r.Last(came) == api.OK {
					came++
				}
			}
			for range 1 + n*7%room {
				if v, e := r.Take(); e == api.OK && v != went {
					t.Fatalf("room %d: %d, not %d", room, v, went)
				} else if e == api.OK {
					went++
				}
			}
			if r.Len() != came-went {
				t.Fatalf("Len %d of %d put and %d taken", r.Len(), came, went)
			}
		}
		if went < 60 {
			t.Error("too few were taken:", went)
		}
	}
}

// P12.7: what was put by First is the next that is taken.
func TestFirstIsNext(t *testing.T) {
	for begin := range 4 {
		r := made[int](t, 4)
		for i := range begin {
			last(t, r, i)
			takes(t, r, i)
		}
		last(t, r, 1, 2)
		first(t, r, 0)
		last(t, r, 3)
		takes(t, r, 0, 1)
		first(t, r, 8, 9)
		takes(t, r, 9, 8, 2, 3)
	}
}

// The greatest room, filled, turned and emptied.
func TestGreatestRoom(t *testing.T) {
	r := made[int](t, api.MaxRing)
	for i := range api.MaxRing {
		last(t, r, i)
	}
	if !r.Full() || r.Last(1) != api.ErrNoRoom || r.First(1) != api.ErrNoRoom {
		t.Error("it is full")
	}
	for i := range 1000 {
		takes(t, r, i)
		last(t, r, api.MaxRing+i)
	}
	c := r.Copy()
	next := 1000
	for v := range c.All() {
		if v != next {
			t.Fatal("All:", v, next)
		}
		next++
	}
	for i := range api.MaxRing {
		takes(t, r, 1000+i)
	}
	takesNothing(t, r, api.ErrNothing)
	if n := c.Clear(); n != api.MaxRing || c.High() != api.MaxRing || r.High() != api.MaxRing {
		t.Error("Clear:", n)
	}
}

// R1: a ring that is nil, or that New did not make.
func TestNoRing(t *testing.T) {
	for _, r := range []*ring.Ring[string]{nil, {}, new(ring.Ring[string])} {
		for range 2 {
			if a, b := r.Last("a"), r.First("b"); a != api.ErrNil || b != api.ErrNil {
				t.Errorf("Last %d, First %d", a, b)
			}
			takesNothing(t, r, api.ErrNil)
			for _, i := range []int{-1, 0, 1} {
				if v, ok := r.At(i); v != "" || ok {
					t.Errorf("At(%d): %q %v", i, v, ok)
				}
			}
			if r.Len() != 0 || r.Room() != 0 || r.Full() || r.High() != 0 || r.Clear() != 0 || r.Copy() != nil {
				t.Error("something is told of no ring")
			}
			for v := range r.All() {
				t.Errorf("All: %q", v)
			}
		}
	}
}

// Things of any kind: those that cannot be compared, those of no size, those that are great.
func TestAnyThings(t *testing.T) {
	f := made[func() int](t, 2)
	last(t, f, func() int { return 1 }, nil)
	if v, e := f.Take(); e != api.OK || v() != 1 {
		t.Error("a function:", e)
	}
	if v, e := f.Take(); e != api.OK || v != nil {
		t.Error("no function:", e)
	}
	if v, ok := f.At(0); v != nil || ok {
		t.Error("At of functions")
	}

	s := made[struct{}](t, 2)
	last(t, s, struct{}{}, struct{}{})
	holds(t, s, 2, 2, struct{}{}, struct{}{})
	if s.Last(struct{}{}) != api.ErrNoRoom {
		t.Error("no size")
	}

	a := made[[100]int](t, 2)
	last(t, a, [100]int{1, 99: 2})
	first(t, a, [100]int{3})
	holds(t, a, 2, 2, [100]int{3}, [100]int{1, 99: 2})

	x := made[any](t, 3)
	last[any](t, x, 1, "a", nil)
	holds[any](t, x, 3, 3, 1, "a", nil)

	m := made[*ring.Ring[int]](t, 1)
	inner := made[int](t, 1)
	last(t, m, inner)
	takes(t, m, inner)
}
