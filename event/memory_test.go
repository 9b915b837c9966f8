package event_test

import (
	"sync"
	"testing"

	"tappet/api"
)

// R3: the masks are read, kept nowhere and not changed.
func TestMasksAreTheCallers(t *testing.T) {
	masks := []uint32{1, 0, 7, 99}[:3]
	x := made(t, masks...)
	masks[0], masks[1], masks[2] = 0, 5, 0
	sets(t, x, 0, 1, false)
	refuses(t, x, 1, api.EAccess)
	waits(t, x, 2, 4, true)
	if masks[0] != 0 || masks[1] != 5 || masks[2] != 0 || masks[:4][3] != 99 {
		t.Error("changed:", masks[:4])
	}
}

// P15.5, R3: a copy goes its own way, and so does what it was made of.
func TestCopyIsItsOwn(t *testing.T) {
	x := made(t, 1, 0, 1)
	sets(t, x, 0, 1, false)
	waits(t, x, 0, 2, true)
	waits(t, x, 2, 0, true)
	c := x.Copy()
	holds(t, c, 0, 1, 2)
	waitsAlready(t, c, 2, 1)
	refuses(t, c, 1, api.EAccess)
	refuses(t, c, 3, api.EID)
	sets(t, x, 0, 2, true)
	holds(t, c, 0, 1, 2)
	sets(t, c, 0, 6, true)
	holds(t, x, 0, 3, 0)
	c.Reset()
	waitsAlready(t, x, 2, 1)
	holds(t, x, 0, 3, 0)
	sets(t, c, 2, 9, false)
	x.Reset()
	holds(t, c, 2, 9, 0)
	d := c.Copy()
	freshens(t, c, 2)
	holds(t, d, 2, 9, 0)
}

// R4: two tables of the same masks know nothing of one another.
func TestTwoTables(t *testing.T) {
	x, y := made(t, 1, 2), made(t, 1, 2)
	sets(t, x, 0, 1, false)
	waits(t, y, 1, 2, true)
	holds(t, x, 1, 0, 0)
	holds(t, y, 0, 0, 0)
	y.Reset()
	holds(t, x, 0, 1, 0)
}

// The room is laid out by New: what is done later asks for no memory.
func TestNoMemoryAsked(t *testing.T) {
	x := made(t, 1, 0)
	n := testing.AllocsPerRun(100, func() {
		for task := range 3 {
			x.Set(task, 1)
			x.Wait(task, 2)
			x.Waits(task)
			x.Set(task, 2)
			x.Clear(task, 3)
			x.Get(task)
			x.Fresh(task)
		}
		x.Reset()
	})
	if n != 0 {
		t.Error("asked for memory:", n)
	}
}

// What only tells changes nothing: several may ask at one time.
func TestAskedByMany(t *testing.T) {
	x := made(t, 1, 1)
	sets(t, x, 0, 1, false)
	waits(t, x, 0, 2, true)
	var w sync.WaitGroup
	for range 4 {
		w.Add(1)
		go func() {
			defer w.Done()
			for range 100 {
				x.Get(0)
				x.Waits(0)
				x.Copy()
			}
		}()
	}
	w.Wait()
	holds(t, x, 0, 1, 2)
}
