package ring_test

import (
	"slices"
	"testing"

	"tappet/api"
	"tappet/ring"
)

// row reads the chapter a second time: a list in which everything is moved about, with its room and its greatest length.
type row[T comparable] struct {
	room, high int
	list       []T
}

func (w *row[T]) put(i int, v T) api.Errno {
	if len(w.list) == w.room {
		return api.ErrNoRoom
	}
	w.list = slices.Insert(slices.Clone(w.list), i, v)
	w.high = max(w.high, len(w.list))
	return api.OK
}

func (w *row[T]) take() (T, api.Errno) {
	var v T
	if len(w.list) == 0 {
		return v, api.ErrNothing
	}
	v, w.list = w.list[0], slices.Clone(w.list[1:])
	return v, api.OK
}

func (w *row[T]) clear() int {
	n := len(w.list)
	w.list = nil
	return n
}

func (w *row[T]) copy() *row[T] { return &row[T]{w.room, w.high, slices.Clone(w.list)} }

func made[T any](t *testing.T, room int) *ring.Ring[T] {
	t.Helper()
	r, e := ring.New[T](room)
	if e != api.OK || r == nil {
		t.Fatalf("New(%d): %v, %d", room, r, e)
	}
	return r
}

func last[T any](t *testing.T, r *ring.Ring[T], l ...T) {
	t.Helper()
	for _, v := range l {
		if e := r.Last(v); e != api.OK {
			t.Fatalf("Last(%v): %d", v, e)
		}
	}
}

func first[T any](t *testing.T, r *ring.Ring[T], l ...T) {
	t.Helper()
	for _, v := range l {
		if e := r.First(v); e != api.OK {
			t.Fatalf("First(%v): %d", v, e)
		}
	}
}

func takes[T comparable](t *testing.T, r *ring.Ring[T], l ...T) {
	t.Helper()
	for _, want := range l {
		if v, e := r.Take(); v != want || e != api.OK {
			t.Fatalf("Take: %v %d, not %v", v, e, want)
		}
	}
}

func takesNothing[T comparable](t *testing.T, r *ring.Ring[T], want api.Errno) {
	t.Helper()
	var zero T
	if v, e := r.Take(); v != zero || e != want {
		t.Errorf("Take: %v %d, not %d", v, e, want)
	}
}

// stands: a ring is told by all that can be asked of it as the row is.
func stands[T comparable](t *testing.T, r *ring.Ring[T], w *row[T]) {
	t.Helper()
	if r.Len() != len(w.list) || r.Room() != w.room || r.High() != w.high || r.Full() != (len(w.list) == w.room) {
		t.Fatalf("Len %d, Room %d, High %d, Full %v; not as %v", r.Len(), r.Room(), r.High(), r.Full(), *w)
	}
	var zero T
	for i := range w.room + 3 {
		i -= 2
		v, ok := r.At(i)
		if there := i >= 0 && i < len(w.list); ok != there || !there && v != zero || there && v != w.list[i] {
			t.Fatalf("At(%d): %v %v; not as %v", i, v, ok, w.list)
		}
	}
	if l := slices.Collect(r.All()); !slices.Equal(l, w.list) {
		t.Fatalf("All: %v, not %v", l, w.list)
	}
}

// holds: these things, from the first on, in that room, and as many at most at one time.
func holds[T comparable](t *testing.T, r *ring.Ring[T], room, high int, l ...T) {
	t.Helper()
	stands(t, r, &row[T]{room, high, l})
}
