package tick_test

import (
	"testing"

	"tappet/api"
)

// P21.2: each counter goes round by itself, whether it has alarms or not.
func TestCountersGoRound(t *testing.T) {
	x := ordinary()
	b := made(t, x)
	want := make([]uint32, len(x.Counters))
	for n := range 60 {
		for c := range x.Counters {
			if n%(c+1) != 0 {
				continue
			}
			ticks(t, b, c, 1)
			if want[c]++; want[c] > x.Counters[c].Max {
				want[c] = 0
			}
			countersAre(t, b, want...)
		}
	}
}

// P21.2: numbers of no counter; nothing changes.
func TestTickOfNoCounter(t *testing.T) {
	x := ordinary()
	p := newPair(t, x)
	p.auto(t, 0)
	for _, c := range append([]int{len(x.Counters), len(x.Alarms)}, beyond...) {
		if l, e := p.b.Tick(c); len(l) != 0 || e != api.ErrArg {
			t.Errorf("Tick(%d): %v %d", c, l, e)
		}
		p.stands(t)
	}
}

// P21.2: what expires at one tick is told rising, by the board's numbers, however it was set; a tick of one counter is none of another's.
func TestTickTellsRising(t *testing.T) {
	b := made(t, ordinary())
	is(t, "Rel", b.Rel(6, 4, 4), api.EOK)
	is(t, "Abs", b.Abs(3, 4, 0), api.EOK)
	is(t, "Rel", b.Rel(1, 4, 8), api.EOK)
	is(t, "Rel", b.Rel(4, 3, 3), api.EOK)
	is(t, "Abs", b.Abs(0, 3, 0), api.EOK)
	is(t, "Abs", b.Abs(2, 4, 0), api.EOK)
	starts(t, b, 0, 1) // 5: in 4 ticks, and then every 2
	ticks(t, b, 0, 4, 1, 3, 5, 6)
	notSet(t, b, 3)
	alarmIs(t, b, 1, 8, 8)
	alarmIs(t, b, 5, 2, 2)
	alarmIs(t, b, 4, 3, 3)
	ticks(t, b, 2, 3, 0, 4)
	ticks(t, b, 2, 3, 4)
	ticks(t, b, 0, 2, 5)
	ticks(t, b, 0, 2, 5, 6)
	ticks(t, b, 3, 4, 2)
	countersAre(t, b, 8, 0, 2, 4)
}

// P21.3: Max, Base and Min of its own counter, whether it is set or not.
func TestBase(t *testing.T) {
	x := ordinary()
	b := made(t, x)
	b.Rel(3, 1, 0)
	for n, row := range x.Alarms {
		c := x.Counters[row.Counter]
		if v, s := b.Base(n); v != [3]uint32{c.Max, c.Base, c.Min} || s != api.EOK {
			t.Errorf("Base(%d): %v %d", n, v, s)
		}
	}
}

// P21.3: alarms that are not there, ahead of all other errors; nothing changes.
func TestNoSuchAlarm(t *testing.T) {
	p := newPair(t, ordinary())
	p.auto(t, 1)
	for _, n := range append([]int{7, 8}, beyond...) {
		if v, s := p.b.Base(n); v != [3]uint32{} || s != api.EID {
			t.Errorf("Base(%d): %v %d", n, v, s)
		}
		left(t, p.b, n, 0, api.EID)
		is(t, "Cancel", p.b.Cancel(n), api.EID)
		for _, figure := range []uint32{0, 1, 9, 10, top} {
			for _, cycle := range []uint32{0, 1, 2, 10, top} {
				is(t, "Rel", p.b.Rel(n, figure, cycle), api.EID)
				is(t, "Abs", p.b.Abs(n, figure, cycle), api.EID)
			}
		}
	}
	p.stands(t)
}

// P21.3: every figure with every cycle, those around the edges among them, of each alarm, at every value of its counter; of a set one EState whatever they are.
func TestFigures(t *testing.T) {
	x := ordinary()
	figures := []uint32{0, 1, 2, 3, 4, 5, 8, 9, 10, 11, 1 << 31, 1<<31 + 1, top - 1, top}
	p := newPair(t, x)
	for range 10 {
		for n := range x.Alarms {
			for _, figure := range figures {
				for _, cycle := range figures {
					p.rel(t, n, figure, cycle)
					p.abs(t, n, figure, cycle)
					p.cancel(t, n)
					p.abs(t, n, figure, cycle)
					p.rel(t, n, figure, cycle)
					v, s := p.k.left(n)
					left(t, p.b, n, v, s)
					p.cancel(t, n)
					p.cancel(t, n)
				}
			}
		}
		p.stands(t)
		for c := range x.Counters {
			p.tick(t, c)
		}
	}
}

// P21.3: a value that is now comes a whole round later; of the greatest counter that is 2^31 ticks.
func TestWholeRound(t *testing.T) {
	b := made(t, greatest())
	c := 5 * 7 % 16
	ticks(t, b, c, 2)
	is(t, "Abs", b.Abs(5, 2, 0), api.EOK)
	alarmIs(t, b, 5, 1<<31, 0)
	ticks(t, b, c, 1)
	alarmIs(t, b, 5, 1<<31-1, 0)
	is(t, "Cancel", b.Cancel(5), api.EOK)
	is(t, "Abs", b.Abs(5, 2, 1), api.EOK)
	alarmIs(t, b, 5, 1<<31-1, 1)
	is(t, "Cancel", b.Cancel(5), api.EOK)
	is(t, "Rel", b.Rel(5, 1<<31, 0), api.EValue)
	is(t, "Rel", b.Rel(5, 1<<31-1, 1<<31-1), api.EOK)
	alarmIs(t, b, 5, 1<<31-1, 1<<31-1)
	notSet(t, b, 21, 37, 53) // those of the same counter
}

// P21.3: a cancelled alarm does not expire, others of its counter go on, and it may be set anew.
func TestCancel(t *testing.T) {
	b := made(t, ordinary())
	is(t, "Rel", b.Rel(1, 3, 3), api.EOK)
	is(t, "Rel", b.Rel(3, 3, 0), api.EOK)
	is(t, "Rel", b.Rel(5, 3, 5), api.EOK)
	ticks(t, b, 0, 2)
	is(t, "Cancel", b.Cancel(3), api.EOK)
	is(t, "Cancel", b.Cancel(3), api.ENoFunc)
	notSet(t, b, 3)
	ticks(t, b, 0, 1, 1, 5)
	is(t, "Cancel", b.Cancel(1), api.EOK)
	is(t, "Rel", b.Rel(3, 1, 0), api.EOK)
	is(t, "Rel", b.Rel(3, 1, 0), api.EState)
	ticks(t, b, 0, 1, 3)
	ticks(t, b, 0, 4, 5)
	is(t, "Rel", b.Rel(1, 1, 0), api.EOK) // its old cycle is forgotten
	ticks(t, b, 0, 1, 1)
	notSet(t, b, 1)
}

// P21.4: which alarms start in which mode, with what.
func TestAuto(t *testing.T) {
	x := ordinary()
	for mode, want := range [][]int{{0, 4, 5}, {1, 4, 6}, {1, 4, 5}} {
		b := made(t, x)
		starts(t, b, mode, 3)
		for n, row := range x.Alarms {
			if n == want[0] {
				alarmIs(t, b, n, row.Time, row.Cycle)
				want = append(want[1:], -1)
			} else {
				notSet(t, b, n)
			}
		}
		starts(t, b, mode, 0)
		countersAre(t, b, 0, 0, 0, 0)
		requestedAre(t, b)
	}
}

// P21.4: an alarm that is set stays as it is, and does not count; a counter's value does not matter.
func TestAutoOfSetOnes(t *testing.T) {
	b := made(t, ordinary())
	ticks(t, b, 0, 7)
	is(t, "Rel", b.Rel(5, 9, 3), api.EOK)
	is(t, "Rel", b.Rel(3, 2, 0), api.EOK)
	starts(t, b, 0, 2)
	alarmIs(t, b, 5, 9, 3)
	alarmIs(t, b, 3, 2, 0)
	starts(t, b, 2, 1)
	alarmIs(t, b, 1, 9, 0)
	starts(t, b, 1, 1)
	alarmIs(t, b, 6, 1, 9)
	ticks(t, b, 0, 1, 6)
	starts(t, b, 1, 0)
	ticks(t, b, 0, 1, 3)
	ticks(t, b, 2, 1, 4)
	starts(t, b, 1, 1) // 4 has expired
	alarmIs(t, b, 4, 1, 0)
}

// P21.4: modes that are not there; nothing changes.
func TestAutoOfNoMode(t *testing.T) {
	for modes := 1; modes <= api.MaxModes; modes++ {
		x := fitted(api.Tables{Modes: modes, Counters: []api.CounterRow{{Max: 9, Base: 1, Min: 1}}, Alarms: []api.AlarmRow{{Auto: 1<<modes - 1, Time: 5}}})
		b := made(t, x)
		for _, m := range append([]int{modes, modes + 1, 8, 9, 31, 32, 33, 63, 64}, beyond...) {
			if n, e := b.Auto(m); n != 0 || e != api.ErrArg {
				t.Errorf("Auto(%d) of %d modes: %d %d", m, modes, n, e)
			}
		}
		notSet(t, b, 0)
		for m := range modes {
			starts(t, b, m, 1)
			alarmIs(t, b, 0, 5, 0)
			is(t, "Cancel", b.Cancel(0), api.EOK)
		}
	}
}

// P21.6: Calm: alarms and requests are gone, the counters go on from where they are.
func TestCalm(t *testing.T) {
	x := ordinary()
	p := newPair(t, x)
	p.auto(t, 0)
	p.auto(t, 1)
	p.rel(t, 3, 2, 2)
	for n := range x.Isrs {
		p.request(t, n)
	}
	for c := range x.Counters {
		p.tick(t, c)
		p.tick(t, c)
		p.tick(t, c)
	}
	p.stands(t)
	p.calm(t)
	notSet(t, p.b, 0, 1, 2, 3, 4, 5, 6)
	requestedAre(t, p.b)
	countersAre(t, p.b, 3, 1, 3, 3)
	next(t, p.b, -1, open, -1)
	answers(t, "Serve", p.b.Serve(1), api.ErrArg)
	p.calm(t)
	p.stands(t)
	for range 12 {
		for c := range x.Counters {
			ticks(t, p.b, c, 1)
			p.k.tick(c)
		}
	}
	p.stands(t)
	p.auto(t, 0)
	p.rel(t, 3, 1, 0)
	p.request(t, 4)
	p.stands(t)
}
