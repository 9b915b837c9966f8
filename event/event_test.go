package event_test

import (
	"math"
	"testing"

	"tappet/api"
	"tappet/event"
)

const all = uint32(math.MaxUint32)

// P15.1: as many tasks as may be, and no more.
func TestNewCounts(t *testing.T) {
	for n := range api.MaxTasks + 1 {
		masks := make([]uint32, n)
		for i := range masks {
			masks[i] = uint32(i % 3)
		}
		stands(t, made(t, masks...), newBook(masks))
	}
	for _, n := range []int{api.MaxTasks + 1, api.MaxTasks + 2, 2 * api.MaxTasks, 1 << 17} {
		if x, e := event.New(make([]uint32, n)); x != nil || e != api.ErrMasks {
			t.Errorf("New of %d: %v %d", n, x, e)
		}
	}
}

// P15.1, P15.2: a table of no task is one nonetheless.
func TestNoTasks(t *testing.T) {
	for _, masks := range [][]uint32{nil, {}} {
		x := made(t, masks...)
		refuses(t, x, 0, api.EID)
		if e := x.Reset(); e != api.OK {
			t.Error("Reset:", e)
		}
		c := x.Copy()
		if c == nil {
			t.Fatal("no copy")
		}
		refuses(t, c, 0, api.EID)
		if e := c.Reset(); e != api.OK {
			t.Error("Reset of the copy:", e)
		}
	}
}

// P15.1, P15.2: every mask but 0 makes a task extended, whichever bit it has.
func TestExtended(t *testing.T) {
	for n := range 32 {
		x := made(t, 0, 1<<n, 0)
		holds(t, x, 1, 0, 0)
		if waitsNow(x, 1) {
			t.Error("waits at first:", n)
		}
		refuses(t, x, 0, api.EAccess)
		refuses(t, x, 2, api.EAccess)
		holds(t, x, 1, 0, 0)
	}
}

// P15.2: tasks that are not there.
func TestNoSuchTask(t *testing.T) {
	x := made(t, 1, 0, 2)
	sets(t, x, 0, 5, false)
	waits(t, x, 2, 6, true)
	for _, task := range []int{-1, -2, -256, 3, 4, 255, 256, 257, 1 << 16, 1 << 32, 1<<32 + 2, math.MaxInt, math.MinInt} {
		refuses(t, x, task, api.EID)
	}
	refuses(t, x, 1, api.EAccess)
	holds(t, x, 0, 5, 0)
	holds(t, x, 2, 0, 6)
	full := made(t, make([]uint32, api.MaxTasks)...)
	refuses(t, full, api.MaxTasks, api.EID)
	refuses(t, full, -1, api.EID)
	refuses(t, full, api.MaxTasks-1, api.EAccess)
}

// P15.2: a basic task stays basic, whatever was asked of it, and also behind Reset and Copy.
func TestBasicStays(t *testing.T) {
	x := made(t, 0, 1)
	refuses(t, x, 0, api.EAccess)
	x.Reset()
	refuses(t, x, 0, api.EAccess)
	refuses(t, x.Copy(), 0, api.EAccess)
	holds(t, x, 1, 0, 0)
}

// P15.2: bits that are no event of the task count like others.
func TestForeignBits(t *testing.T) {
	x := made(t, 1)
	sets(t, x, 0, 1<<31|1<<7, false)
	holds(t, x, 0, 1<<31|1<<7, 0)
	waits(t, x, 0, 1<<31, false)
	waits(t, x, 0, 1<<30, true)
	sets(t, x, 0, 1, false)
	sets(t, x, 0, 1<<30, true)
	clears(t, x, 0, 1<<7|1<<20)
	holds(t, x, 0, 1<<31|1<<30|1, 0)
}

// P15.3: each event alone.
func TestEachEvent(t *testing.T) {
	for n := range 32 {
		bit := uint32(1) << n
		x := made(t, all)
		sets(t, x, 0, bit, false)
		holds(t, x, 0, bit, 0)
		waits(t, x, 0, all, false)
		waits(t, x, 0, all&^bit, true)
		sets(t, x, 0, bit, false)
		holds(t, x, 0, bit, all&^bit)
		clears(t, x, 0, bit)
		sets(t, x, 0, 1<<((n+1)%32), true)
		holds(t, x, 0, 1<<((n+1)%32), 0)
		clears(t, x, 0, all&^(1<<((n+1)%32)))
		holds(t, x, 0, 1<<((n+1)%32), 0)
	}
}

// P15.3: to set or clear nothing changes nothing, nor does a second time.
func TestSetAndClearNothing(t *testing.T) {
	x := made(t, 7)
	sets(t, x, 0, 5, false)
	sets(t, x, 0, 0, false)
	sets(t, x, 0, 5, false)
	clears(t, x, 0, 0)
	holds(t, x, 0, 5, 0)
	clears(t, x, 0, 1)
	clears(t, x, 0, 1)
	holds(t, x, 0, 4, 0)
	waits(t, x, 0, 2, true)
	sets(t, x, 0, 0, false)
	clears(t, x, 0, all)
	holds(t, x, 0, 0, 2)
}

// P15.3: who waits is woken once, by one of several, and keeps what else is set.
func TestWoken(t *testing.T) {
	x := made(t, 1)
	sets(t, x, 0, 8, false)
	waits(t, x, 0, 6, true)
	sets(t, x, 0, 16, false)
	holds(t, x, 0, 24, 6)
	sets(t, x, 0, 4|32, true)
	holds(t, x, 0, 60, 0)
	sets(t, x, 0, 6, false)
	holds(t, x, 0, 62, 0)
	clears(t, x, 0, 6)
	waits(t, x, 0, 2, true)
	sets(t, x, 0, 4, false)
	sets(t, x, 0, 2, true)
}

// P15.4: one of the events is set already: nothing is waited for, and nothing changes.
func TestWaitForWhatIsSet(t *testing.T) {
	x := made(t, 1)
	sets(t, x, 0, 6, false)
	for _, mask := range []uint32{2, 4, 6, 3, 12, all} {
		waits(t, x, 0, mask, false)
		holds(t, x, 0, 6, 0)
		if waitsNow(x, 0) {
			t.Errorf("waits behind Wait(0, %#x)", mask)
		}
	}
	waits(t, x, 0, all&^6, true)
	holds(t, x, 0, 6, all&^6)
}

// P15.4: EState stands ahead of what is set, and the first wait goes on.
func TestWaitsAlready(t *testing.T) {
	x := made(t, 1)
	sets(t, x, 0, 1, false)
	waits(t, x, 0, 2, true)
	for _, mask := range []uint32{0, 1, 2, 3, 4, all} {
		waitsAlready(t, x, 0, mask)
		holds(t, x, 0, 1, 2)
	}
	sets(t, x, 0, 4, false)
	sets(t, x, 0, 2, true)
	waits(t, x, 0, 8, true)
}

// P15.4: to wait for no event is ended by Fresh and Reset alone.
func TestWaitForNothing(t *testing.T) {
	x := made(t, 1, 1)
	sets(t, x, 0, 5, false)
	waits(t, x, 0, 0, true)
	waitsAlready(t, x, 0, 0)
	waitsAlready(t, x, 0, 5)
	sets(t, x, 0, all, false)
	clears(t, x, 0, all)
	sets(t, x, 0, 0, false)
	holds(t, x, 0, 0, 0)
	waitsAlready(t, x, 0, 1)
	freshens(t, x, 1)
	waitsAlready(t, x, 0, 1)
	freshens(t, x, 0)
	waits(t, x, 0, 0, true)
	if e := x.Reset(); e != api.OK {
		t.Error("Reset:", e)
	}
	waits(t, x, 0, 1, true)
	sets(t, x, 0, 1, true)
}

// P15.5: Fresh is of one task alone.
func TestFresh(t *testing.T) {
	x := made(t, 1, 1, 1)
	for task := range 3 {
		sets(t, x, task, 1, false)
		waits(t, x, task, 2, true)
	}
	freshens(t, x, 1)
	holds(t, x, 0, 1, 2)
	holds(t, x, 1, 0, 0)
	holds(t, x, 2, 1, 2)
	sets(t, x, 1, 2, false)
	holds(t, x, 1, 2, 0)
	freshens(t, x, 1)
	freshens(t, x, 1)
	holds(t, x, 1, 0, 0)
	waits(t, x, 1, 0, true)
}

// P15.5: Reset is Fresh of all, the first and the last of as many as may be among them.
func TestReset(t *testing.T) {
	masks := make([]uint32, api.MaxTasks)
	for task := range masks {
		masks[task] = uint32(task+1) % 4
	}
	x, b := made(t, masks...), newBook(masks)
	for task := range masks {
		x.Set(task, 5)
		x.Wait(task, uint32(task%2*2))
	}
	if e := x.Reset(); e != api.OK {
		t.Error("Reset:", e)
	}
	stands(t, x, b)
	if e := x.Reset(); e != api.OK {
		t.Error("Reset again:", e)
	}
	stands(t, x, b)
}

// P15.3, R4: tasks know nothing of one another, not even the first and the last of as many as may be.
func TestTasksAlone(t *testing.T) {
	masks := make([]uint32, api.MaxTasks)
	for task := range masks {
		masks[task] = 1
	}
	x := made(t, masks...)
	for task := range masks {
		sets(t, x, task, uint32(task), false)
		waits(t, x, task, ^uint32(task), true)
	}
	for task := range masks {
		holds(t, x, task, uint32(task), ^uint32(task))
	}
	for task := range masks {
		sets(t, x, task, 1<<31, true)
		holds(t, x, task, uint32(task)|1<<31, 0)
		if next := task + 1; next < len(masks) {
			holds(t, x, next, uint32(next), ^uint32(next))
		}
	}
}

// P15.2, P15.5, R1: tables that no call made.
func TestNobodys(t *testing.T) {
	var none *event.Table
	for _, x := range []*event.Table{none, new(event.Table), {}} {
		for _, task := range []int{0, 1, 255, 256, -1, math.MaxInt, math.MinInt} {
			refuses(t, x, task, api.EID)
		}
		if e := x.Reset(); e != api.ErrNil {
			t.Error("Reset:", e)
		}
		if c := x.Copy(); c != nil {
			t.Error("Copy:", c)
		}
		refuses(t, x, 0, api.EID)
	}
}
