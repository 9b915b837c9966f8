package ring_test

import (
	"runtime"
	"slices"
	"testing"
	"weak"

	"tappet/api"
	"tappet/ring"
)

// thing is great enough to be freed alone.
type thing struct{ body [64]byte }

// things are put into the ring, and known by nobody else.
func things(t *testing.T, r *ring.Ring[*thing], count int) []weak.Pointer[thing] {
	t.Helper()
	var l []weak.Pointer[thing]
	for range count {
		v := new(thing)
		last(t, r, v)
		l = append(l, weak.Make(v))
	}
	return l
}

func gone(l []weak.Pointer[thing]) int {
	runtime.GC()
	n := 0
	for _, w := range l {
		if w.Value() == nil {
			n++
		}
	}
	return n
}

// The way clear: what was taken away is cleared in the room, so that nothing of it is kept.
func TestTakenIsCleared(t *testing.T) {
	for begin := range 4 {
		r := made[*thing](t, 4)
		for range begin {
			last(t, r, nil)
			takes(t, r, nil)
		}
		l := things(t, r, 4)
		if n := gone(l); n != 0 {
			t.Error("gone while they stand there:", n)
		}
		r.Take()
		if n := gone(l[:1]); n != 1 || gone(l[1:]) != 0 {
			t.Error("one was taken, gone:", n)
		}
		r.Clear()
		if n := gone(l); n != 4 {
			t.Error("all were taken away, gone:", n)
		}
		runtime.KeepAlive(r)
	}
}

// R3: a copy keeps what it holds, and nothing that the other holds.
func TestCopyKeepsItsOwn(t *testing.T) {
	r := made[*thing](t, 4)
	l := things(t, r, 2)
	c := r.Copy()
	r.Clear()
	if n := gone(l); n != 0 {
		t.Error("the copy holds them, gone:", n)
	}
	c.Take()
	l = append(l, things(t, r, 2)...)
	if n := gone(l); n != 1 {
		t.Error("one was taken out of the copy, gone:", n)
	}
	runtime.KeepAlive(r)
	r = nil
	if n := gone(l); n != 3 {
		t.Error("the ring is no more, gone:", n)
	}
	runtime.KeepAlive(c)
}

// The room is reckoned ahead: what is put and taken later asks for no memory.
func TestNoMemoryAsked(t *testing.T) {
	r := made[[4]int](t, 8)
	n := testing.AllocsPerRun(100, func() {
		for range 9 {
			r.Last([4]int{1})
			r.First([4]int{2})
		}
		for range 5 {
			r.Take()
		}
		r.Clear()
	})
	if n != 0 {
		t.Error("asked for memory:", n)
	}
}

// R4: rings made by several calls know nothing of one another.
func TestRingsApart(t *testing.T) {
	a, b, s := made[int](t, 2), made[int](t, 3), made[string](t, 2)
	last(t, a, 1, 2)
	last(t, s, "x")
	first(t, b, 7)
	holds(t, a, 2, 2, 1, 2)
	holds(t, b, 3, 1, 7)
	holds(t, s, 2, 1, "x")
	a.Clear()
	holds(t, b, 3, 1, 7)
	ring.New[int](-1)
	holds(t, a, 2, 2)
}

// P12.5: two that range over one ring at a time do not meet.
func TestTwoRangings(t *testing.T) {
	r := made[int](t, 3)
	last(t, r, 1, 2, 3)
	all := r.All()
	var seen []int
	for v := range all {
		for w := range all {
			if w > v {
				break
			}
			seen = append(seen, 10*v+w)
		}
	}
	if !slices.Equal(seen, []int{11, 21, 22, 31, 32, 33}) {
		t.Error(seen)
	}
}

// R2: a call that is refused changes nothing.
func TestRefusedChangesNothing(t *testing.T) {
	r := made[int](t, 2)
	last(t, r, 1, 2)
	takes(t, r, 1)
	last(t, r, 3)
	for range 5 {
		if r.Last(9) != api.ErrNoRoom || r.First(9) != api.ErrNoRoom {
			t.Error("it is full")
		}
		r.At(-1)
		r.At(2)
		holds(t, r, 2, 2, 2, 3)
	}
	takes(t, r, 2, 3)
	for range 5 {
		takesNothing(t, r, api.ErrNothing)
		holds(t, r, 2, 2)
	}
	last(t, r, 4, 5)
	holds(t, r, 2, 2, 4, 5)
}
