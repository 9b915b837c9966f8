package clock_test

import (
	"slices"
	"testing"

	"tappet/api"
	"tappet/clock"
)

// date is at which tick, counted from the beginning on, an alarm is due, and its cycle.
type date struct {
	at    uint64
	cycle uint32
}

// calendar reads the chapter a second time: it counts all ticks, and notes of each alarm that is set its date. It goes from tick to tick, and so is for small counters.
type calendar struct {
	max, min uint32
	ticks    uint64
	dates    map[int]date
	alarms   int
}

func newCalendar(c api.Counter, alarms int) *calendar {
	return &calendar{max: c.Max, min: c.Min, dates: map[int]date{}, alarms: alarms}
}

func (k *calendar) valueAt(tick uint64) uint32 { return uint32(tick % (uint64(k.max) + 1)) }

func (k *calendar) cycleMayBe(cycle uint32) bool {
	return cycle == 0 || k.min <= cycle && cycle <= k.max
}

// free tells whether an alarm may be set.
func (k *calendar) free(alarm int) api.Status {
	if alarm < 0 || alarm >= k.alarms {
		return api.EID
	}
	if _, there := k.dates[alarm]; there {
		return api.EState
	}
	return api.EOK
}

// note sets an alarm, if the figures may be.
func (k *calendar) note(alarm int, mayBe bool, ticks uint64, cycle uint32) api.Status {
	s := k.free(alarm)
	if s == api.EOK && !mayBe {
		return api.EValue
	}
	if s == api.EOK {
		k.dates[alarm] = date{k.ticks + ticks, cycle}
	}
	return s
}

func (k *calendar) rel(alarm int, ticks, cycle uint32) api.Status {
	return k.note(alarm, ticks != 0 && ticks <= k.max && k.cycleMayBe(cycle), uint64(ticks), cycle)
}

func (k *calendar) abs(alarm int, value, cycle uint32) api.Status {
	if value > k.max {
		return k.note(alarm, false, 0, 0)
	}
	n := uint64(1)
	for k.valueAt(k.ticks+n) != value {
		n++
	}
	return k.note(alarm, k.cycleMayBe(cycle), n, cycle)
}

func (k *calendar) set(alarm int, ticks, cycle uint32) api.Status {
	return k.note(alarm, ticks != 0 && uint64(ticks) < uint64(k.max)+2 && cycle <= k.max, uint64(ticks), cycle)
}

// of finds the date of an alarm that is set.
func (k *calendar) of(alarm int) (date, api.Status) {
	switch k.free(alarm) {
	case api.EID:
		return date{}, api.EID
	case api.EOK:
		return date{}, api.ENoFunc
	}
	return k.dates[alarm], api.EOK
}

func (k *calendar) cancel(alarm int) api.Status {
	_, s := k.of(alarm)
	delete(k.dates, alarm)
	return s
}

func (k *calendar) tick() []int {
	k.ticks++
	var told []int
	for alarm := range k.alarms {
		d, there := k.dates[alarm]
		if !there || d.at != k.ticks {
			continue
		}
		told = append(told, alarm)
		delete(k.dates, alarm)
		if d.cycle > 0 {
			k.dates[alarm] = date{k.ticks + uint64(d.cycle), d.cycle}
		}
	}
	return told
}

func (k *calendar) coming(most int) []api.Expiry {
	c := k.copy()
	var told []api.Expiry
	for len(told) < most && len(c.dates) > 0 {
		for _, alarm := range c.tick() {
			told = append(told, api.Expiry{In: c.ticks - k.ticks, Alarm: alarm})
		}
	}
	return told[:max(0, min(most, len(told)))]
}

func (k *calendar) reset() { k.ticks, k.dates = 0, map[int]date{} }

func (k *calendar) copy() *calendar {
	c := *k
	c.dates = map[int]date{}
	for alarm, d := range k.dates {
		c.dates[alarm] = d
	}
	return &c
}

func made(t *testing.T, max, min uint32, alarms int) *clock.Clock {
	t.Helper()
	c, e := clock.New(api.Counter{Max: max, Min: min}, alarms)
	if e != api.OK || c == nil {
		t.Fatalf("New(%d, %d; %d): %v, %d", max, min, alarms, c, e)
	}
	return c
}

func ok(t *testing.T, s api.Status) {
	t.Helper()
	is(t, s, api.EOK)
}

func is(t *testing.T, s, want api.Status) {
	t.Helper()
	if s != want {
		t.Fatalf("status %d, not %d", s, want)
	}
}

// ticks lets the clock tick until it tells an alarm; it must be at the tick n, and these alarms.
func ticks(t *testing.T, c *clock.Clock, n int, alarms ...int) {
	t.Helper()
	for i := range n {
		var want []int
		if i == n-1 {
			want = alarms
		}
		if l := c.Tick(); !slices.Equal(l, want) {
			t.Fatalf("tick %d of %d: %v, not %v", i+1, n, l, want)
		}
	}
}

// stands: the alarm is set, with so many ticks left and that cycle.
func stands(t *testing.T, c *clock.Clock, alarm int, left uint64, cycle uint32) {
	t.Helper()
	if v, s := c.Left(alarm); v != left || s != api.EOK {
		t.Fatalf("Left(%d): %d %d, not %d", alarm, v, s, left)
	}
	if v, s := c.Cycle(alarm); v != cycle || s != api.EOK {
		t.Fatalf("Cycle(%d): %d %d, not %d", alarm, v, s, cycle)
	}
}

// tellsNothing: Left and Cycle answer the status, and zero besides; Cancel answers it, too.
func tellsNothing(t *testing.T, c *clock.Clock, alarm int, want api.Status) {
	t.Helper()
	if v, s := c.Left(alarm); v != 0 || s != want {
		t.Fatalf("Left(%d): %d %d, not %d", alarm, v, s, want)
	}
	if v, s := c.Cycle(alarm); v != 0 || s != want {
		t.Fatalf("Cycle(%d): %d %d, not %d", alarm, v, s, want)
	}
	if s := c.Cancel(alarm); s != want {
		t.Fatalf("Cancel(%d): %d, not %d", alarm, s, want)
	}
}

func coming(t *testing.T, c *clock.Clock, most int, want ...api.Expiry) {
	t.Helper()
	if l := c.Coming(most); !slices.Equal(l, want) {
		t.Fatalf("Coming(%d): %v, not %v", most, l, want)
	}
}

// chance gives numbers that are the same in each run.
type chance uint64

func (c *chance) below(n int) int {
	*c = *c*6364136223846793005 + 1442695040888963407
	return int(uint64(*c>>33) % uint64(n))
}

func (c *chance) wide() uint64 {
	return uint64(c.below(1<<31))<<33 ^ uint64(c.below(1<<31))<<11 ^ uint64(c.below(1<<31))
}
