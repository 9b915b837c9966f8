package tick_test

import (
	"math"
	"slices"
	"testing"

	"tappet/api"
	"tappet/table"
	"tappet/tick"
)

const top = math.MaxUint32

var open api.Gate

// beyond are numbers of nothing, where there are at most 64 of a kind.
var beyond = []int{-1, -2, -7, -8, -64, 64, 65, 255, 256, 257, 1 << 16, 1 << 32, 1<<32 + 1, math.MaxInt, math.MinInt}

// fitted gives tables a task, if they have none, and the room that their rows need.
func fitted(x api.Tables) api.Tables {
	if len(x.Tasks) == 0 {
		x.Tasks = []api.TaskRow{{Priority: 1, Limit: 1, Internal: -1}}
		x.Rings = []api.RingRow{{Priority: 1, Capacity: 1}}
	}
	x.Modes = max(x.Modes, 1)
	x.Depth, x.Frames, x.Errors, x.Callbacks = len(x.Rings), len(x.Isrs)+4, 2, 0
	count := make([]int, len(x.Counters))
	for i := range x.Alarms {
		a := &x.Alarms[i]
		count[a.Counter]++
		x.Errors = max(x.Errors, count[a.Counter])
		if a.Action.Kind == api.ActNone {
			a.Action.Kind = api.ActTask
		}
		if a.Action.Kind == api.ActCallback {
			x.Callbacks++
		}
	}
	return x
}

// examples are the tables of the chapter's examples.
func examples() api.Tables {
	return fitted(api.Tables{
		Counters: []api.CounterRow{{Max: 9, Base: 1, Min: 1}},
		Alarms:   []api.AlarmRow{{}, {}},
		Isrs:     []api.IsrRow{{Category: 2, Priority: 70}, {Category: 1, Priority: 90}},
	})
}

// ordinary are tables with three counters whose alarms stand between one another, one that has none, alarms that start in several of three modes, in all and in none, and ISRs of both categories, not in the order of their priorities.
func ordinary() api.Tables {
	return fitted(api.Tables{
		Modes:    3,
		Counters: []api.CounterRow{{Max: 9, Base: 4, Min: 2}, {Max: 1, Base: 1, Min: 1}, {Max: 3, Base: 7, Min: 3}, {Max: 4, Base: 2, Min: 2}},
		Alarms: []api.AlarmRow{
			{Counter: 2, Auto: 1, Time: 3, Cycle: 3},
			{Counter: 0, Auto: 6, Time: 9},
			{Counter: 3, Action: api.ActionRow{Kind: api.ActCallback}},
			{Counter: 0},
			{Counter: 2, Auto: 7, Time: 1},
			{Counter: 0, Auto: 5, Time: 4, Cycle: 2},
			{Counter: 0, Auto: 2, Time: 1, Cycle: 9, Action: api.ActionRow{Kind: api.ActCallback}},
		},
		Isrs: []api.IsrRow{
			{Category: 2, Priority: 70},
			{Category: 1, Priority: 127},
			{Category: 2, Priority: 64},
			{Category: 1, Priority: 90},
			{Category: 2, Priority: 80},
		},
	})
}

// greatest are as many counters, alarms and ISRs as may be, and as many modes.
func greatest() api.Tables {
	x := api.Tables{Modes: api.MaxModes}
	for range api.MaxCounters {
		x.Counters = append(x.Counters, api.CounterRow{Max: api.MaxTick, Base: api.MaxTick, Min: 1})
	}
	for n := range api.MaxAlarms {
		x.Alarms = append(x.Alarms, api.AlarmRow{Counter: n * 7 % api.MaxCounters, Auto: 1 << (n % api.MaxModes), Time: api.MaxTick, Cycle: api.MaxTick})
	}
	for n := range api.MaxIsrs {
		row := api.IsrRow{Category: 2, Priority: 64 + n*11%32}
		if row.Priority > 79 {
			row.Category, row.Priority = 1, row.Priority+32
		}
		x.Isrs = append(x.Isrs, row)
	}
	return fitted(x)
}

// copied are the same tables in memory of their own.
func copied(x api.Tables) api.Tables {
	x.Tasks, x.Rings = slices.Clone(x.Tasks), slices.Clone(x.Rings)
	x.Counters, x.Alarms, x.Isrs = slices.Clone(x.Counters), slices.Clone(x.Alarms), slices.Clone(x.Isrs)
	return x
}

func made(t *testing.T, x api.Tables) *tick.Board {
	t.Helper()
	b, e := tick.New(x)
	if e != api.OK || b == nil {
		t.Fatalf("New: %v, %d; Check: %d", b, e, table.Check(x))
	}
	return b
}

// is: a service answers this status.
func is(t *testing.T, what string, s, want api.Status) {
	t.Helper()
	if s != want {
		t.Fatalf("%s: %d, not %d", what, s, want)
	}
}

func answers(t *testing.T, what string, e, want api.Errno) {
	t.Helper()
	if e != want {
		t.Fatalf("%s: %d, not %d", what, e, want)
	}
}

// ticks: behind n ticks of a counter, and not ahead of the last, these alarms expire.
func ticks(t *testing.T, b *tick.Board, counter, n int, alarms ...int) {
	t.Helper()
	for i := range n {
		var want []int
		if i == n-1 {
			want = alarms
		}
		if l, e := b.Tick(counter); !slices.Equal(l, want) || e != api.OK {
			t.Fatalf("tick %d of %d of counter %d: %v %d, not %v", i+1, n, counter, l, e, want)
		}
	}
}

func left(t *testing.T, b *tick.Board, alarm int, want uint32, status api.Status) {
	t.Helper()
	if v, s := b.Left(alarm); v != want || s != status {
		t.Fatalf("Left(%d): %d %d, not %d %d", alarm, v, s, want, status)
	}
}

// alarmIs: the alarm is set, with so many ticks left and that cycle.
func alarmIs(t *testing.T, b *tick.Board, alarm int, ticks, cycle uint32) {
	t.Helper()
	if l := b.Alarms()[alarm]; l != (api.AlarmLook{Set: true, Left: ticks, Cycle: cycle}) {
		t.Fatalf("alarm %d: %v, not %d %d", alarm, l, ticks, cycle)
	}
	left(t, b, alarm, ticks, api.EOK)
}

func notSet(t *testing.T, b *tick.Board, alarms ...int) {
	t.Helper()
	for _, n := range alarms {
		if l := b.Alarms()[n]; l != (api.AlarmLook{}) {
			t.Fatalf("alarm %d: %v", n, l)
		}
		left(t, b, n, 0, api.ENoFunc)
	}
}

func countersAre(t *testing.T, b *tick.Board, want ...uint32) {
	t.Helper()
	if l := b.Counters(); !slices.Equal(l, want) {
		t.Fatalf("Counters: %v, not %v", l, want)
	}
}

func starts(t *testing.T, b *tick.Board, mode, want int) {
	t.Helper()
	if n, e := b.Auto(mode); n != want || e != api.OK {
		t.Fatalf("Auto(%d): %d %d, not %d", mode, n, e, want)
	}
}

func requests(t *testing.T, b *tick.Board, isrs ...int) {
	t.Helper()
	for _, n := range isrs {
		is(t, "Request", b.Request(n), api.EOK)
	}
}

func requestedAre(t *testing.T, b *tick.Board, want ...int) {
	t.Helper()
	if l := b.Requested(); !slices.Equal(l, want) {
		t.Fatalf("Requested: %v, not %v", l, want)
	}
}

// next: want below 0 stands for none.
func next(t *testing.T, b *tick.Board, level int, g api.Gate, want int) {
	t.Helper()
	if n, there := b.Next(level, g); n != want || there != (want >= 0) {
		t.Fatalf("Next(%d, %v): %d %v, not %d", level, g, n, there, want)
	}
}

// chance gives numbers that are the same in each run.
type chance uint64

func (c *chance) below(n int) int {
	*c = *c*6364136223846793005 + 1442695040888963407
	return int(uint64(*c>>33) % uint64(n))
}

func (c *chance) one(n int) bool { return c.below(n) == 0 }

// tables are made by chance; their counters are small, so that they wrap.
func (c *chance) tables() api.Tables {
	x := api.Tables{Modes: 1 + c.below(api.MaxModes)}
	for range c.below(5) {
		most := uint32(1 + c.below(7))
		x.Counters = append(x.Counters, api.CounterRow{Max: most, Base: uint32(1 + c.below(9)), Min: uint32(1 + c.below(int(most)))})
	}
	for range c.below(9) {
		if len(x.Counters) > 0 {
			x.Alarms = append(x.Alarms, c.alarm(x))
		}
	}
	border := 64 + c.below(64) // of the categories
	for p := 64; p < 128; p++ {
		if !c.one(12) || len(x.Isrs) == api.MaxIsrs {
			continue
		}
		row := api.IsrRow{Category: 2, Priority: p}
		if p > border {
			row.Category = 1
		}
		x.Isrs = slices.Insert(x.Isrs, c.below(len(x.Isrs)+1), row)
	}
	return fitted(x)
}

func (c *chance) alarm(x api.Tables) api.AlarmRow {
	a := api.AlarmRow{Counter: c.below(len(x.Counters)), Action: api.ActionRow{Kind: api.ActTask}}
	if c.one(3) {
		a.Action.Kind = api.ActCallback
	}
	row := x.Counters[a.Counter]
	if a.Auto = uint32(c.below(1 << x.Modes)); a.Auto != 0 {
		a.Time = uint32(1 + c.below(int(row.Max)))
		if !c.one(3) {
			a.Cycle = row.Min + uint32(c.below(int(row.Max-row.Min+1)))
		}
	}
	return a
}

// gate is one by chance, most often one that lets through.
func (c *chance) gate() api.Gate {
	return api.Gate{Shut: c.one(5), All: max(0, c.below(6)-4), Os: max(0, c.below(4)-2)}
}
