package task_test

import (
	"slices"
	"sync"
	"testing"

	"tappet/api"
)

// R3: the rows are read, kept nowhere and not changed.
func TestRowsAreTheCallers(t *testing.T) {
	rows := []api.Activity{basic(2), extended(), basic(99)}[:2]
	x := made(t, rows...)
	rows[0], rows[1] = basic(1), basic(5)
	activates(t, x, 0, true)
	activates(t, x, 0, false)
	lead(t, x, 1, api.Waiting)
	activatesNot(t, x, 1, api.ELimit)
	if !slices.Equal(rows[:3], []api.Activity{basic(1), basic(5), basic(99)}) {
		t.Error("changed:", rows[:3])
	}
}

// R3: what Those answers is the caller's own.
func TestThoseIsNew(t *testing.T) {
	x := made(t, basic(1), basic(1), basic(1))
	l := x.Those(api.Suspended)
	m := x.Those(api.Suspended)
	l[0], l[1] = 7, 8
	l = append(l[:1], 9, 9)
	if !slices.Equal(m, []int{0, 1, 2}) || !slices.Equal(x.Those(api.Suspended), m) {
		t.Error("shared:", l, m, x.Those(api.Suspended))
	}
	activates(t, x, 1, true)
	if !slices.Equal(m, []int{0, 1, 2}) {
		t.Error("changed:", m)
	}
}

// P18.6, R3: a copy is alike, goes its own way, and so does what it was made of.
func TestCopyIsItsOwn(t *testing.T) {
	x := made(t, basic(2), extended(), basic(1))
	lead(t, x, 1, api.Waiting)
	lead(t, x, 0, api.Running)
	activates(t, x, 0, false)
	c := x.Copy()
	is(t, c, 0, api.Running, 2)
	is(t, c, 1, api.Waiting, 1)
	is(t, c, 2, api.Suspended, 0)
	activatesNot(t, c, 0, api.ELimit)
	activatesNot(t, c, 3, api.EID)
	ends(t, x, 0, api.Ready, api.OK)
	releases(t, x, 1, api.OK)
	is(t, c, 0, api.Running, 2)
	is(t, c, 1, api.Waiting, 1)
	tells(t, c.Wait, -1, api.ErrState)
	tells(t, c.Preempt, 0, api.OK)
	activates(t, c, 2, true)
	is(t, x, 0, api.Ready, 1)
	is(t, x, 2, api.Suspended, 0)
	x.Reset()
	is(t, c, 0, api.Ready, 2)
	d := c.Copy()
	c.Reset()
	is(t, d, 0, api.Ready, 2)
	is(t, d, 1, api.Waiting, 1)
}

// R4: two tables of the same rows know nothing of one another.
func TestTwoTables(t *testing.T) {
	rows := []api.Activity{basic(1), extended()}
	x, y := made(t, rows...), made(t, rows...)
	lead(t, x, 0, api.Running)
	lead(t, y, 1, api.Running)
	is(t, x, 1, api.Suspended, 0)
	is(t, y, 0, api.Suspended, 0)
	y.Reset()
	is(t, x, 0, api.Running, 1)
}

// The room is laid out by New: what is done later asks for no memory.
func TestNoMemoryAsked(t *testing.T) {
	x := made(t, basic(2), extended())
	n := testing.AllocsPerRun(100, func() {
		for n := range 3 {
			x.Activate(n)
			x.Activate(n)
			x.Start(n)
			x.Preempt()
			x.Start(n)
			x.Wait()
			x.Release(n)
			x.Start(n)
			x.Again()
			x.Start(n)
			x.End()
			x.State(n)
			x.Active(n)
			x.Running()
		}
		x.Reset()
	})
	if n != 0 {
		t.Error("asked for memory:", n)
	}
}

// What only tells changes nothing: several may ask at one time.
func TestAskedByMany(t *testing.T) {
	x := made(t, basic(1), extended())
	lead(t, x, 1, api.Waiting)
	lead(t, x, 0, api.Running)
	var w sync.WaitGroup
	for range 4 {
		w.Add(1)
		go func() {
			defer w.Done()
			for range 100 {
				x.State(0)
				x.Active(1)
				x.Running()
				x.Those(api.Waiting)
				x.Copy()
			}
		}()
	}
	w.Wait()
	is(t, x, 0, api.Running, 1)
	is(t, x, 1, api.Waiting, 1)
}
