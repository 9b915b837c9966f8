package clock_test

import (
	"slices"
	"testing"

	"tappet/api"
	"tappet/clock"
)

// pair is a clock and the calendar that it must be like.
type pair struct {
	c *clock.Clock
	k *calendar
}

func newPair(t *testing.T, x api.Counter, alarms int) *pair {
	t.Helper()
	return &pair{made(t, x.Max, x.Min, alarms), newCalendar(x, alarms)}
}

func (p *pair) rel(t *testing.T) func(alarm int, n, cycle uint32) {
	return func(alarm int, n, cycle uint32) {
		t.Helper()
		if s, want := p.c.Rel(alarm, n, cycle), p.k.rel(alarm, n, cycle); s != want {
			t.Fatalf("Rel(%d, %d, %d): %d, not %d", alarm, n, cycle, s, want)
		}
	}
}

func (p *pair) abs(t *testing.T) func(alarm int, value, cycle uint32) {
	return func(alarm int, value, cycle uint32) {
		t.Helper()
		if s, want := p.c.Abs(alarm, value, cycle), p.k.abs(alarm, value, cycle); s != want {
			t.Fatalf("Abs(%d, %d, %d): %d, not %d", alarm, value, cycle, s, want)
		}
	}
}

func (p *pair) set(t *testing.T) func(alarm int, n, cycle uint32) {
	return func(alarm int, n, cycle uint32) {
		t.Helper()
		if s, want := p.c.Set(alarm, n, cycle), p.k.set(alarm, n, cycle); s != want {
			t.Fatalf("Set(%d, %d, %d): %d, not %d", alarm, n, cycle, s, want)
		}
	}
}

func (p *pair) cancel(t *testing.T, alarm int) {
	t.Helper()
	if s, want := p.c.Cancel(alarm), p.k.cancel(alarm); s != want {
		t.Fatalf("Cancel(%d): %d, not %d", alarm, s, want)
	}
}

func (p *pair) tick(t *testing.T) {
	t.Helper()
	if l, want := p.c.Tick(), p.k.tick(); !slices.Equal(l, want) {
		t.Fatalf("Tick: %v, not %v", l, want)
	}
}

func (p *pair) reset() {
	p.c.Reset()
	p.k.reset()
}

// copied goes on as the copy; the other is given back.
func (p *pair) copied() *pair {
	old := *p
	p.c, p.k = p.c.Copy(), p.k.copy()
	return &old
}

// stands: the value, every alarm and those beside them, and what comes are the calendar's.
func (p *pair) stands(t *testing.T) {
	t.Helper()
	if v, want := p.c.Value(), p.k.valueAt(p.k.ticks); v != want {
		t.Fatalf("Value: %d, not %d", v, want)
	}
	for alarm := -1; alarm <= p.k.alarms; alarm++ {
		d, want := p.k.of(alarm)
		var left uint64
		if want == api.EOK {
			left = d.at - p.k.ticks
		}
		if v, s := p.c.Left(alarm); v != left || s != want {
			t.Fatalf("Left(%d): %d %d, not %d %d", alarm, v, s, left, want)
		}
		if v, s := p.c.Cycle(alarm); v != d.cycle || s != want {
			t.Fatalf("Cycle(%d): %d %d, not %d %d", alarm, v, s, d.cycle, want)
		}
	}
	if l, want := p.c.Coming(7), p.k.coming(7); !slices.Equal(l, want) {
		t.Fatalf("Coming(7): %v, not %v", l, want)
	}
}

// runs does all rows of so many of the deeds, each with a clock of its own.
func runs(t *testing.T, long int, x api.Counter, alarms int, deeds []func(p *pair)) {
	t.Helper()
	count := 1
	for range long {
		count *= len(deeds)
	}
	for n := range count {
		p := newPair(t, x, alarms)
		for range long {
			deeds[n%len(deeds)](p)
			n /= len(deeds)
		}
		p.stands(t)
	}
}

// P16.3 to P16.9: every call of one alarm in every order, up to five deep, on a counter that wraps at once.
func TestEveryShortRun(t *testing.T) {
	deeds := []func(p *pair){
		func(p *pair) { p.tick(t) },
		func(p *pair) { p.cancel(t, 0) },
		func(p *pair) { p.reset() },
		func(p *pair) { p.copied() },
		func(p *pair) { p.rel(t)(0, 1, 0) },
		func(p *pair) { p.rel(t)(0, 2, 2) },
		func(p *pair) { p.rel(t)(0, 3, 1) },
		func(p *pair) { p.abs(t)(0, 0, 0) },
		func(p *pair) { p.abs(t)(0, 2, 2) },
		func(p *pair) { p.set(t)(0, 3, 1) },
	}
	for long := range 6 {
		runs(t, long, api.Counter{Max: 2, Min: 2}, 1, deeds)
	}
}

// P16.4 to P16.9: every call of several alarms, and of none, in every order.
func TestEveryAlarm(t *testing.T) {
	deeds := []func(p *pair){
		func(p *pair) { p.tick(t) },
		func(p *pair) {
			old := p.copied()
			old.tick(t)
			old.rel(t)(1, 3, 0)
			old.stands(t)
		},
	}
	for alarm := -1; alarm < 3; alarm++ {
		deeds = append(deeds,
			func(p *pair) { p.rel(t)(alarm, 1, 0) },
			func(p *pair) { p.abs(t)(alarm, 1, 2) },
			func(p *pair) { p.set(t)(alarm, 4, 1) },
			func(p *pair) { p.cancel(t, alarm) })
	}
	for long := range 5 {
		runs(t, long, api.Counter{Max: 3, Min: 2}, 2, deeds)
	}
}

// step does one thing by chance.
func (p *pair) step(t *testing.T, c *chance) (old *pair) {
	t.Helper()
	alarm := c.below(p.k.alarms+2) - 1
	figure, cycle := uint32(c.below(int(p.k.max)+4)), uint32(c.below(int(p.k.max)+4))
	if c.below(3) == 0 {
		cycle = 0
	}
	switch n := c.below(100); {
	case n < 15:
		p.rel(t)(alarm, figure, cycle)
	case n < 30:
		p.abs(t)(alarm, figure, cycle)
	case n < 40:
		p.set(t)(alarm, figure, cycle)
	case n < 50:
		p.cancel(t, alarm)
	case n < 97:
		p.tick(t)
	case n < 98:
		p.reset()
	default:
		old = p.copied()
	}
	return old
}

// P16.3 to P16.9, R4: long runs, with copies that go their own ways: each step changes one clock alone.
func TestLongRuns(t *testing.T) {
	c := chance(1)
	for range 300 {
		most := uint32(c.below(12) + 1)
		x := api.Counter{Max: most, Min: uint32(c.below(int(most)) + 1)}
		clocks := []*pair{newPair(t, x, c.below(6))}
		for range 200 {
			p := clocks[c.below(len(clocks))]
			if old := p.step(t, &c); old != nil && len(clocks) < 3 {
				clocks = append(clocks, old)
			}
			for _, q := range clocks {
				q.stands(t)
			}
		}
	}
}

// P16.3 to P16.9: as many alarms as may be.
func TestLongRunsOfMany(t *testing.T) {
	c := chance(2)
	for range 20 {
		p := newPair(t, api.Counter{Max: 40, Min: 3}, api.MaxAlarms)
		for range 500 {
			p.step(t, &c)
			p.stands(t)
		}
	}
}

// P16.3 to P16.9: whatever is done to two alarms of a counter, of which the first byte tells the greatest value and the least cycle.
func FuzzClock(f *testing.F) {
	f.Add([]byte{9, 0, 3, 0, 6, 3, 2, 4, 0, 0, 4, 0, 0})
	f.Add([]byte{0x21, 7, 2, 1, 4, 0, 0, 3, 0, 0})
	f.Add([]byte{0, 2, 2, 1, 4, 0, 0, 5, 0, 0})
	f.Fuzz(func(t *testing.T, b []byte) {
		if len(b) == 0 || len(b) > 300 {
			return
		}
		most := uint32(b[0]%16) + 1
		p := newPair(t, api.Counter{Max: most, Min: uint32(b[0]/16)%most + 1}, 2)
		for b = b[1:]; len(b) > 2; b = b[3:] {
			alarm, figure, cycle := int(b[0]/6)%4-1, uint32(b[1]%20), uint32(b[2]%20)
			switch b[0] % 6 {
			case 0:
				p.rel(t)(alarm, figure, cycle)
			case 1:
				p.abs(t)(alarm, figure, cycle)
			case 2:
				p.set(t)(alarm, figure, cycle)
			case 3:
				p.cancel(t, alarm)
			case 4:
				p.tick(t)
			case 5:
				p.copied().stands(t)
			}
			p.stands(t)
		}
	})
}
