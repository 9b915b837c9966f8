package event_test

import (
	"testing"

	"tappet/api"
	"tappet/event"
)

// diary reads the chapter a second time: of one task it notes what was done, and reckons from that what is set.
type diary struct {
	extended bool
	deeds    []deed
	waiting  []uint32 // nothing, or the one mask that is waited for
}

// deed: the events of the mask were set, or cleared.
type deed struct {
	set  bool
	mask uint32
}

// has tells whether one event is set: whether the last deed that touched it since the beginning was a setting.
func (d *diary) has(bit uint32) bool {
	for i := len(d.deeds) - 1; i >= 0; i-- {
		if d.deeds[i].mask&bit != 0 {
			return d.deeds[i].set
		}
	}
	return false
}

func (d *diary) get() uint32 {
	var all uint32
	for n := range 32 {
		if bit := uint32(1) << n; d.has(bit) {
			all += bit
		}
	}
	return all
}

// common tells whether two masks have an event in common, one by one.
func common(a, b uint32) bool {
	for n := range 32 {
		if a>>n%2 == 1 && b>>n%2 == 1 {
			return true
		}
	}
	return false
}

// book is a table of diaries.
type book []*diary

func newBook(masks []uint32) book {
	var b book
	for _, m := range masks {
		b = append(b, &diary{extended: m != 0})
	}
	return b
}

func (b book) find(task int) (*diary, api.Status) {
	if task < 0 || task >= len(b) {
		return nil, api.EID
	}
	if !b[task].extended {
		return nil, api.EAccess
	}
	return b[task], api.EOK
}

func (b book) set(task int, mask uint32) (bool, api.Status) {
	d, s := b.find(task)
	if s != api.EOK {
		return false, s
	}
	d.deeds = append(d.deeds, deed{true, mask})
	if len(d.waiting) == 1 && common(d.waiting[0], mask) {
		d.waiting = nil
		return true, api.EOK
	}
	return false, api.EOK
}

func (b book) clear(task int, mask uint32) api.Status {
	d, s := b.find(task)
	if s == api.EOK {
		d.deeds = append(d.deeds, deed{false, mask})
	}
	return s
}

func (b book) wait(task int, mask uint32) (bool, api.Status) {
	d, s := b.find(task)
	switch {
	case s != api.EOK:
		return false, s
	case len(d.waiting) == 1:
		return false, api.EState
	case common(d.get(), mask):
		return false, api.EOK
	}
	d.waiting = []uint32{mask}
	return true, api.EOK
}

func (b book) fresh(task int) api.Status {
	d, s := b.find(task)
	if s == api.EOK {
		*d = diary{extended: true}
	}
	return s
}

func (b book) copy() book {
	var c book
	for _, d := range b {
		c = append(c, &diary{d.extended, append([]deed(nil), d.deeds...), append([]uint32(nil), d.waiting...)})
	}
	return c
}

func made(t *testing.T, masks ...uint32) *event.Table {
	t.Helper()
	x, e := event.New(masks)
	if e != api.OK || x == nil {
		t.Fatalf("New(%v): %v, %d", masks, x, e)
	}
	return x
}

func sets(t *testing.T, x *event.Table, task int, mask uint32, woken bool) {
	t.Helper()
	if w, s := x.Set(task, mask); w != woken || s != api.EOK {
		t.Fatalf("Set(%d, %#x): %v %d, not %v", task, mask, w, s, woken)
	}
}

func clears(t *testing.T, x *event.Table, task int, mask uint32) {
	t.Helper()
	if s := x.Clear(task, mask); s != api.EOK {
		t.Fatalf("Clear(%d, %#x): %d", task, mask, s)
	}
}

func waits(t *testing.T, x *event.Table, task int, mask uint32, begun bool) {
	t.Helper()
	if w, s := x.Wait(task, mask); w != begun || s != api.EOK {
		t.Fatalf("Wait(%d, %#x): %v %d, not %v", task, mask, w, s, begun)
	}
}

func waitsAlready(t *testing.T, x *event.Table, task int, mask uint32) {
	t.Helper()
	if w, s := x.Wait(task, mask); w || s != api.EState {
		t.Fatalf("Wait(%d, %#x): %v %d, not EState", task, mask, w, s)
	}
}

func freshens(t *testing.T, x *event.Table, task int) {
	t.Helper()
	if s := x.Fresh(task); s != api.EOK {
		t.Fatalf("Fresh(%d): %d", task, s)
	}
}

// holds: these events of an extended task are set, and those are waited for.
func holds(t *testing.T, x *event.Table, task int, set, waited uint32) {
	t.Helper()
	if v, s := x.Get(task); v != set || s != api.EOK {
		t.Fatalf("Get(%d): %#x %d, not %#x", task, v, s, set)
	}
	if v := x.Waits(task); v != waited {
		t.Fatalf("Waits(%d): %#x, not %#x", task, v, waited)
	}
}

// refuses: every call with this task answers the status, and zero besides.
func refuses(t *testing.T, x *event.Table, task int, want api.Status) {
	t.Helper()
	for _, mask := range []uint32{0, 1, 2, 1 << 31, 1<<32 - 1} {
		if w, s := x.Set(task, mask); w || s != want {
			t.Errorf("Set(%d, %#x): %v %d, not %d", task, mask, w, s, want)
		}
		if s := x.Clear(task, mask); s != want {
			t.Errorf("Clear(%d, %#x): %d, not %d", task, mask, s, want)
		}
		if w, s := x.Wait(task, mask); w || s != want {
			t.Errorf("Wait(%d, %#x): %v %d, not %d", task, mask, w, s, want)
		}
	}
	if v, s := x.Get(task); v != 0 || s != want {
		t.Errorf("Get(%d): %#x %d, not %d", task, v, s, want)
	}
	if s := x.Fresh(task); s != want {
		t.Errorf("Fresh(%d): %d, not %d", task, s, want)
	}
	if v := x.Waits(task); v != 0 {
		t.Errorf("Waits(%d): %#x", task, v)
	}
}

// waitsNow tells whether a task waits, also for no event at all, without changing the table.
func waitsNow(x *event.Table, task int) bool {
	_, s := x.Copy().Wait(task, 0)
	return s == api.EState
}

// stands: of every task, and of those beside them, the table tells what the book does.
func stands(t *testing.T, x *event.Table, b book) {
	t.Helper()
	for task := -1; task <= len(b); task++ {
		d, want := b.find(task)
		v, s := x.Get(task)
		if s != want {
			t.Fatalf("Get(%d): %d, not %d", task, s, want)
		}
		var set, waited uint32
		if want == api.EOK {
			set = d.get()
			if len(d.waiting) == 1 {
				waited = d.waiting[0]
			}
			if waitsNow(x, task) != (len(d.waiting) == 1) {
				t.Fatalf("task %d waits: %v; not as %v", task, waitsNow(x, task), d.waiting)
			}
		}
		if w := x.Waits(task); v != set || w != waited {
			t.Fatalf("task %d: set %#x, waits for %#x; not %#x, %#x", task, v, w, set, waited)
		}
		if common(v, x.Waits(task)) { // P15.6
			t.Fatalf("task %d waits for %#x, of which %#x are set", task, x.Waits(task), v)
		}
	}
}

// chance gives numbers that are the same in each run.
type chance uint64

func (c *chance) below(n int) int {
	*c = *c*6364136223846793005 + 1442695040888963407
	return int(uint64(*c>>33) % uint64(n))
}
