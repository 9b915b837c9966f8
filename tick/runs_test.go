package tick_test

import (
	"slices"
	"testing"

	"tappet/api"
)

type deed func(t *testing.T, p *pair)

// deedsOf are all calls that change a board, with numbers of these and of those beside them, and a few figures.
func deedsOf(x api.Tables, figures, cycles []uint32) []deed {
	deeds := []deed{func(t *testing.T, p *pair) { p.calm(t) }}
	for n := -1; n <= len(x.Counters); n++ {
		deeds = append(deeds, func(t *testing.T, p *pair) { p.tick(t, n) })
	}
	for n := -1; n <= x.Modes; n++ {
		deeds = append(deeds, func(t *testing.T, p *pair) { p.auto(t, n) })
	}
	for n := -1; n <= len(x.Isrs); n++ {
		deeds = append(deeds,
			func(t *testing.T, p *pair) { p.request(t, n) },
			func(t *testing.T, p *pair) { p.serve(t, n) })
	}
	for n := -1; n <= len(x.Alarms); n++ {
		deeds = append(deeds, func(t *testing.T, p *pair) { p.cancel(t, n) })
		for _, figure := range figures {
			for _, cycle := range cycles {
				deeds = append(deeds,
					func(t *testing.T, p *pair) { p.rel(t, n, figure, cycle) },
					func(t *testing.T, p *pair) { p.abs(t, n, figure, cycle) })
			}
		}
	}
	return deeds
}

// everywhere does every deed in every state that deeds lead to, and tells how many states these are. Each deed is done to a copy, which must not change what it was copied of.
func everywhere(t *testing.T, x api.Tables, deeds []deed) int {
	t.Helper()
	first := newPair(t, x)
	seen := map[string]int{first.k.key(): 1}
	work := []*pair{first}
	for len(work) > 0 {
		p := work[len(work)-1]
		work = work[:len(work)-1]
		for _, do := range deeds {
			q := p.copied(t)
			do(t, q)
			q.stands(t)
			if k := q.k.key(); seen[k] == 0 {
				seen[k] = 1
				work = append(work, q)
			}
		}
		p.stands(t)
	}
	return len(seen)
}

// P21.2 to P21.7: every call in every state of a counter with two alarms and one with none, with one ISR.
func TestEveryState(t *testing.T) {
	x := fitted(api.Tables{
		Modes:    2,
		Counters: []api.CounterRow{{Max: 2, Base: 1, Min: 2}, {Max: 1, Base: 1, Min: 1}},
		Alarms:   []api.AlarmRow{{Auto: 1, Time: 2}, {Auto: 3, Time: 1, Cycle: 2}},
		Isrs:     []api.IsrRow{{Category: 2, Priority: 64}},
	})
	n := everywhere(t, x, deedsOf(x, []uint32{0, 1, 2, 3}, []uint32{0, 1, 2, 3}))
	// Each alarm: not set; 1 to 3 ticks left without a cycle; 1 to 3 with the cycle 2. The counters: 3 and 2 values. The ISR: requested, or not.
	if n != 7*7*3*2*2 {
		t.Error("states:", n)
	}
}

// The same of two counters with an alarm each, the first one's behind the second one's, and two ISRs.
func TestEveryStateOfTwo(t *testing.T) {
	x := fitted(api.Tables{
		Counters: []api.CounterRow{{Max: 1, Base: 1, Min: 1}, {Max: 2, Base: 1, Min: 1}},
		Alarms:   []api.AlarmRow{{Counter: 1}, {Counter: 0, Auto: 1, Time: 1, Cycle: 1}},
		Isrs:     []api.IsrRow{{Category: 2, Priority: 70}, {Category: 1, Priority: 90}},
	})
	n := everywhere(t, x, deedsOf(x, []uint32{0, 1, 2}, []uint32{0, 1, 2}))
	// The first alarm: not set, or 1 to 3 ticks left with a cycle of 0 to 2. The other: not set, or 1 to 2 left with 0 or 1. The counters: 2 and 3 values. The ISRs: each requested, or not.
	if n != (1+9)*(1+4)*2*3*4 {
		t.Error("states:", n)
	}
}

// step does one thing by chance; numbers of nothing are among them.
func (p *pair) step(t *testing.T, c *chance) {
	t.Helper()
	x := p.k.x
	alarm, isr := c.below(len(x.Alarms)+2)-1, c.below(len(x.Isrs)+2)-1
	figure, cycle := uint32(c.below(10)), uint32(c.below(8))
	if c.one(3) {
		cycle = 0
	}
	switch k := c.below(100); {
	case k < 50:
		p.tick(t, c.below(len(x.Counters)+2)-1)
	case k < 60:
		p.rel(t, alarm, figure, cycle)
	case k < 70:
		p.abs(t, alarm, figure, cycle)
	case k < 75:
		p.cancel(t, alarm)
	case k < 78:
		p.auto(t, c.below(x.Modes+2)-1)
	case k < 90:
		p.request(t, isr)
	case k < 95:
		p.next(t, c.below(140)-1, c.gate())
	case k < 99:
		p.serve(t, isr)
	default:
		p.calm(t)
	}
}

// P21.2 to P21.7, R4: long runs off tables made by chance, with copies that go their own ways: each step changes one board alone.
func TestLongRuns(t *testing.T) {
	c := chance(1)
	for n := range 300 {
		x := ordinary()
		if n > 50 {
			x = c.tables()
		}
		boards := []*pair{newPair(t, x)}
		for range 200 {
			p := boards[c.below(len(boards))]
			if c.one(50) && len(boards) < 3 {
				boards = append(boards, p.copied(t))
			} else {
				p.step(t, &c)
			}
			for _, q := range boards {
				q.stands(t)
			}
		}
	}
}

// due tells whether the n-th tick is one at which an alarm set with so many ticks left and that cycle expires.
func due(n, ticks, cycle int) bool {
	return n == ticks || n > ticks && cycle > 0 && (n-ticks)%cycle == 0
}

// P21.7: an alarm that nobody cancels expires at just its d-th tick, and then at every c-th, whatever else is done with the board but Calm; copies take its place.
func TestNoTickIsLost(t *testing.T) {
	c := chance(5)
	for range 400 {
		x := c.tables()
		if len(x.Alarms) == 0 {
			continue
		}
		p := newPair(t, x)
		for range c.below(60) {
			p.step(t, &c)
		}
		mine := c.below(len(x.Alarms))
		mineOf := x.Alarms[mine].Counter
		row := x.Counters[mineOf]
		ticks, cycle := 1+c.below(int(row.Max)), int(row.Min)+c.below(int(row.Max-row.Min+1))
		if c.one(4) {
			cycle = 0
		}
		p.cancel(t, mine)
		is(t, "Rel", p.b.Rel(mine, uint32(ticks), uint32(cycle)), api.EOK)
		p.k.rel(mine, uint32(ticks), uint32(cycle))
		for n := 1; n <= 60; {
			if !c.one(3) {
				p = p.elsewhere(t, &c, mine)
				continue
			}
			l, e := p.b.Tick(mineOf)
			p.k.tick(mineOf)
			answers(t, "Tick", e, api.OK)
			if slices.Contains(l, mine) != due(n, ticks, cycle) {
				t.Fatalf("tick %d of %d, cycle %d: %v", n, ticks, cycle, l)
			}
			if n++; cycle == 0 && n > ticks {
				break
			}
		}
	}
}

// elsewhere does something by chance that neither ticks the counter of an alarm nor cancels it; what would set it anew is refused.
func (p *pair) elsewhere(t *testing.T, c *chance, mine int) *pair {
	t.Helper()
	x := p.k.x
	alarm, counter := c.below(len(x.Alarms)), c.below(len(x.Counters))
	figure, cycle := uint32(c.below(10)), uint32(c.below(8))
	switch k := c.below(10); {
	case k == 0:
		p.rel(t, alarm, figure, cycle)
	case k == 1:
		p.abs(t, alarm, figure, cycle)
	case k == 2:
		is(t, "Rel of a set one", p.b.Rel(mine, figure, cycle), api.EState)
		is(t, "Abs of a set one", p.b.Abs(mine, figure, cycle), api.EState)
	case k == 3 && alarm != mine:
		p.cancel(t, alarm)
	case k == 4 && counter != x.Alarms[mine].Counter:
		p.tick(t, counter)
	case k == 5:
		p.auto(t, c.below(x.Modes))
	case k == 6:
		p.request(t, c.below(len(x.Isrs)+1))
	case k == 7:
		p.serve(t, c.below(len(x.Isrs)+1))
	case k == 8:
		return p.copied(t)
	case k == 9:
		q := p.copied(t)
		q.tick(t, x.Alarms[mine].Counter)
		q.calm(t)
	}
	return p
}

// P21.2 to P21.7: whatever is done to the ordinary tables.
func FuzzBoards(f *testing.F) {
	deeds := deedsOf(ordinary(), []uint32{0, 1, 3, 9}, []uint32{0, 2, 3})
	f.Add([]byte{0, 1, 2, 3, 7, 8, 2, 2, 2, 3, 3, 3})
	f.Add([]byte{8, 2, 13, 15, 17, 14, 2, 2, 2, 4, 0, 2})
	f.Add([]byte{60, 61, 80, 81, 100, 101, 2, 2, 2, 3, 3, 0, 255})
	f.Fuzz(func(t *testing.T, b []byte) {
		if len(b) > 300 {
			return
		}
		p := newPair(t, ordinary())
		for _, x := range b {
			deeds[int(x)%len(deeds)](t, p)
			p.stands(t)
		}
	})
}
