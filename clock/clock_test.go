package clock_test

import (
	"math"
	"testing"

	"tappet/api"
	"tappet/clock"
)

// P16.2: what may be counted, and how many alarms there may be.
func TestNew(t *testing.T) {
	figures := []uint32{0, 1, 2, 3, 9, api.MaxTick - 1, api.MaxTick, api.MaxTick + 1, api.MaxTick + 2, top - 1, top}
	counts := []int{math.MinInt, -1, 0, 1, 2, api.MaxAlarms - 1, api.MaxAlarms, api.MaxAlarms + 1, 256, 1 << 32, math.MaxInt}
	for _, most := range figures {
		for _, least := range figures {
			for _, alarms := range counts {
				may := most >= 1 && most <= 2147483647 && least >= 1 && least <= most && alarms >= 0 && alarms <= 64
				c, e := clock.New(api.Counter{Max: most, Min: least}, alarms)
				if may && (c == nil || e != api.OK) || !may && (c != nil || e != 160) {
					t.Errorf("New(%d, %d; %d): %v %d", most, least, alarms, c, e)
				}
			}
		}
	}
}

// P16.2: the name and the base are not looked at.
func TestNewLooksAtNoMore(t *testing.T) {
	for _, x := range []api.Counter{{Name: "", Base: 0}, {Name: "c", Base: 1}, {Name: "1 {\x00", Base: top}} {
		x.Max, x.Min = 3, 2
		c, e := clock.New(x, 1)
		if e != api.OK {
			t.Fatal(x, e)
		}
		ok(t, c.Rel(0, 3, 2))
		is(t, c.Rel(0, 3, 2), api.EState)
		ticks(t, c, 3, 0)
		ticks(t, c, 2, 0)
	}
	if c, e := clock.New(api.Counter{Name: "c", Max: 0, Base: 5, Min: 1}, 1); c != nil || e != api.ErrCounted {
		t.Error("Max 0:", c, e)
	}
}

// P16.2, P16.3: at first the value is 0, and no alarm is set, however many there are.
func TestAtFirst(t *testing.T) {
	for n := range api.MaxAlarms + 1 {
		c := made(t, 9, 2, n)
		if v := c.Value(); v != 0 {
			t.Fatal("Value:", v)
		}
		for alarm := range n {
			tellsNothing(t, c, alarm, api.ENoFunc)
		}
		for _, alarm := range []int{-1, n, n + 1} {
			tellsNothing(t, c, alarm, api.EID)
		}
		coming(t, c, 5)
		ticks(t, c, 25)
	}
}

// P16.3, P16.6: the value goes round, whether there are alarms or not.
func TestValueGoesRound(t *testing.T) {
	for _, most := range []uint32{1, 2, 9, 255, 256} {
		c := made(t, most, 1, 0)
		for n := range 5 * (most + 1) {
			if v := c.Value(); v != n%(most+1) {
				t.Fatalf("Max %d, behind %d ticks: %d", most, n, v)
			}
			ticks(t, c, 1)
		}
	}
}

// P16.4, P16.5: alarms that are not there, ahead of all other errors.
func TestNoSuchAlarm(t *testing.T) {
	c := made(t, 9, 2, 3)
	ok(t, c.Rel(0, 4, 2))
	for _, alarm := range []int{-1, -2, -64, 3, 4, 63, 64, 256, 1 << 32, 1<<32 + 1, math.MaxInt, math.MinInt} {
		for _, figure := range []uint32{0, 1, 9, 10, 11, top} {
			for _, cycle := range []uint32{0, 1, 2, 9, 10, top} {
				is(t, c.Rel(alarm, figure, cycle), api.EID)
				is(t, c.Abs(alarm, figure, cycle), api.EID)
				is(t, c.Set(alarm, figure, cycle), api.EID)
			}
		}
		tellsNothing(t, c, alarm, api.EID)
	}
	stands(t, c, 0, 4, 2)
	tellsNothing(t, c, 1, api.ENoFunc)
	tellsNothing(t, c, 2, api.ENoFunc)
}

// P16.4: of a set alarm EState is answered, whatever the figures, and it stays as it was.
func TestSetAlready(t *testing.T) {
	c := made(t, 9, 2, 2)
	ok(t, c.Rel(1, 5, 3))
	for _, figure := range []uint32{0, 1, 5, 9, 10, 11, top} {
		for _, cycle := range []uint32{0, 1, 2, 9, 10, top} {
			is(t, c.Rel(1, figure, cycle), api.EState)
			is(t, c.Abs(1, figure, cycle), api.EState)
			is(t, c.Set(1, figure, cycle), api.EState)
		}
	}
	stands(t, c, 1, 5, 3)
	ticks(t, c, 5, 1)
	is(t, c.Rel(1, 1, 0), api.EState) // by its cycle it is set again
	ticks(t, c, 3, 1)
}

// P16.4: of Rel, Abs and Set every figure with every cycle, those around the edges among them, at every value of a small counter.
func TestFigures(t *testing.T) {
	for most := uint32(1); most <= 5; most++ {
		for least := uint32(1); least <= most; least++ {
			p := newPair(t, api.Counter{Max: most, Min: least}, 1)
			for range most + 1 {
				for figure := range most + 4 {
					for cycle := range most + 4 {
						for _, do := range []func(int, uint32, uint32){p.rel(t), p.abs(t), p.set(t)} {
							do(0, figure, cycle)
							p.stands(t)
							p.cancel(t, 0)
						}
					}
				}
				p.tick(t)
			}
		}
	}
}

// P16.4: the edges of the greatest counter.
func TestFiguresOfTheGreatest(t *testing.T) {
	const most, least = api.MaxTick, 1000
	c := made(t, most, least, 1)
	ticks(t, c, 3)
	for _, x := range []struct {
		set           func(int, uint32, uint32) api.Status
		figure, cycle uint32
		want          api.Status
		left          uint64
	}{
		{c.Rel, 0, 0, api.EValue, 0}, {c.Rel, 1, 0, api.EOK, 1}, {c.Rel, most, 0, api.EOK, most}, {c.Rel, most + 1, 0, api.EValue, 0}, {c.Rel, top, 0, api.EValue, 0},
		{c.Rel, 1, 1, api.EValue, 0}, {c.Rel, 1, least - 1, api.EValue, 0}, {c.Rel, 1, least, api.EOK, 1}, {c.Rel, 1, most, api.EOK, 1}, {c.Rel, 1, most + 1, api.EValue, 0}, {c.Rel, 1, top, api.EValue, 0},
		{c.Abs, 0, 0, api.EOK, most - 2}, {c.Abs, 2, 0, api.EOK, most}, {c.Abs, 3, 0, api.EOK, most + 1}, {c.Abs, 4, 0, api.EOK, 1}, {c.Abs, most, 0, api.EOK, most - 3}, {c.Abs, most + 1, 0, api.EValue, 0}, {c.Abs, top, 0, api.EValue, 0},
		{c.Abs, 0, 1, api.EValue, 0}, {c.Abs, 0, least - 1, api.EValue, 0}, {c.Abs, 4, least, api.EOK, 1}, {c.Abs, 4, most, api.EOK, 1}, {c.Abs, 4, most + 1, api.EValue, 0}, {c.Abs, 4, top, api.EValue, 0},
		{c.Set, 0, 0, api.EValue, 0}, {c.Set, 1, 0, api.EOK, 1}, {c.Set, most, 0, api.EOK, most}, {c.Set, most + 1, 0, api.EOK, most + 1}, {c.Set, most + 2, 0, api.EValue, 0}, {c.Set, top, 0, api.EValue, 0},
		{c.Set, 1, 1, api.EOK, 1}, {c.Set, 1, least - 1, api.EOK, 1}, {c.Set, 1, most, api.EOK, 1}, {c.Set, 1, most + 1, api.EValue, 0}, {c.Set, 0, most, api.EValue, 0}, {c.Set, 1, top, api.EValue, 0},
	} {
		is(t, x.set(0, x.figure, x.cycle), x.want)
		if x.want != api.EOK {
			tellsNothing(t, c, 0, api.ENoFunc)
			continue
		}
		stands(t, c, 0, x.left, x.cycle)
		ok(t, c.Cancel(0))
	}
}

// P16.4: a whole round of the greatest counter goes down tick by tick.
func TestGreatestRound(t *testing.T) {
	c := made(t, api.MaxTick, 1, 2)
	ok(t, c.Set(0, 1<<31, 0))
	ok(t, c.Abs(1, 0, 1))
	ticks(t, c, 10)
	stands(t, c, 0, 1<<31-10, 0)
	stands(t, c, 1, 1<<31-10, 1)
	coming(t, c, 3, api.Expiry{In: 1<<31 - 10, Alarm: 0}, api.Expiry{In: 1<<31 - 10, Alarm: 1}, api.Expiry{In: 1<<31 - 9, Alarm: 1})
}

// P16.5: a cancelled alarm does not expire, and may be set anew; others go on.
func TestCancel(t *testing.T) {
	c := made(t, 9, 1, 3)
	ok(t, c.Rel(0, 4, 0))
	ok(t, c.Rel(1, 2, 2))
	ok(t, c.Rel(2, 4, 4))
	ticks(t, c, 2, 1)
	ok(t, c.Cancel(0))
	tellsNothing(t, c, 0, api.ENoFunc)
	ok(t, c.Cancel(1))
	ticks(t, c, 2, 2)
	ok(t, c.Rel(0, 3, 0))
	stands(t, c, 0, 3, 0)
	ticks(t, c, 3, 0)
	ticks(t, c, 1, 2)
	tellsNothing(t, c, 0, api.ENoFunc)
	ok(t, c.Rel(1, 1, 0)) // its old cycle is forgotten
	ticks(t, c, 1, 1)
	tellsNothing(t, c, 1, api.ENoFunc)
}

// P16.6: what expires at one tick is told rising, however it was set.
func TestTickTellsRising(t *testing.T) {
	c := made(t, 9, 1, api.MaxAlarms)
	var all []int
	for alarm := api.MaxAlarms - 1; alarm >= 0; alarm-- {
		all = append([]int{alarm}, all...)
		switch alarm % 3 {
		case 0:
			ok(t, c.Rel(alarm, 7, 7))
		case 1:
			ok(t, c.Abs(alarm, 7, 7))
		case 2:
			ok(t, c.Set(alarm, 7, 7))
		}
	}
	for range 4 {
		ticks(t, c, 7, all...)
	}
	for _, alarm := range all {
		stands(t, c, alarm, 7, 7)
	}
}

// P16.6: a cycle of one tick expires at each tick, on the counter of two values, too.
func TestEachTick(t *testing.T) {
	for _, most := range []uint32{1, 2, 9} {
		c := made(t, most, 1, 2)
		ok(t, c.Rel(1, 1, 1))
		for range 50 {
			ticks(t, c, 1, 1)
			stands(t, c, 1, 1, 1)
		}
	}
}

// P16.8: all is as New made it; what may be set stays.
func TestReset(t *testing.T) {
	c := made(t, 9, 2, 3)
	ticks(t, c, 4)
	ok(t, c.Rel(0, 3, 0))
	ok(t, c.Abs(1, 4, 2))
	ok(t, c.Set(2, 10, 1))
	for range 2 {
		c.Reset()
		if v := c.Value(); v != 0 {
			t.Fatal("Value:", v)
		}
		for alarm := range 3 {
			tellsNothing(t, c, alarm, api.ENoFunc)
		}
		tellsNothing(t, c, 3, api.EID)
		coming(t, c, 9)
	}
	is(t, c.Rel(0, 1, 1), api.EValue)
	is(t, c.Rel(0, 10, 0), api.EValue)
	ok(t, c.Abs(0, 9, 2))
	stands(t, c, 0, 9, 2)
	ticks(t, c, 9, 0)
	if v := c.Value(); v != 9 {
		t.Error("Value:", v)
	}
}

// P16.9, W5: on counters that wrap often each alarm expires at just its ticks, whatever is done with others.
func TestNoTickIsLost(t *testing.T) {
	for _, most := range []uint32{1, 6, 1000, 65535} {
		for _, x := range []struct{ first, cycle uint32 }{{1, 1}, {most, most}, {1, most}, {most, 1}, {(most + 1) / 2, (most + 1) / 2}, {most + 1, 1}, {most/3 + 1, 0}} {
			c := made(t, most, 1, 3)
			ticks(t, c, int(most/2))
			ok(t, c.Set(1, x.first, x.cycle))
			for n := uint64(1); n <= uint64(most)*4+50; n++ {
				due := n == uint64(x.first) || x.cycle > 0 && n > uint64(x.first) && (n-uint64(x.first))%uint64(x.cycle) == 0
				c.Cancel(0)
				c.Rel(0, 1+uint32(n%2)%most, 0)
				c.Abs(2, uint32(n*7)%(most+1), 0)
				is(t, c.Rel(1, 0, 0), map[bool]api.Status{true: api.EState, false: api.EValue}[n <= uint64(x.first) || x.cycle > 0])
				told := false
				for _, alarm := range c.Tick() {
					told = told || alarm == 1
				}
				if told != due {
					t.Fatalf("Max %d, first %d, cycle %d: tick %d told %v", most, x.first, x.cycle, n, told)
				}
			}
		}
	}
}

// R1: clocks that no call made.
func TestNobodys(t *testing.T) {
	var none *clock.Clock
	for _, c := range []*clock.Clock{none, new(clock.Clock), {}} {
		for range 2 {
			for _, alarm := range []int{0, 1, 63, 64, -1, math.MaxInt, math.MinInt} {
				for _, figure := range []uint32{0, 1, top} {
					is(t, c.Rel(alarm, figure, 0), api.EID)
					is(t, c.Abs(alarm, figure, 0), api.EID)
					is(t, c.Set(alarm, figure, 0), api.EID)
				}
				tellsNothing(t, c, alarm, api.EID)
			}
			ticks(t, c, 3)
			for _, most := range []int{math.MinInt, -1, 0, 1, math.MaxInt} {
				coming(t, c, most)
			}
			if v := c.Value(); v != 0 {
				t.Error("Value:", v)
			}
			if d := c.Copy(); d != nil {
				t.Error("Copy:", d)
			}
			c.Reset()
		}
	}
}
