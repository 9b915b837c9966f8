package tick_test

import (
	"testing"

	"tappet/api"
	"tappet/table"
	"tappet/tick"
)

// P21.1: at first all counters are 0, no alarm is set, nothing is requested.
func TestFirst(t *testing.T) {
	for _, x := range []api.Tables{fitted(api.Tables{}), examples(), ordinary(), greatest()} {
		b := made(t, x)
		if len(b.Counters()) != len(x.Counters) || len(b.Alarms()) != len(x.Alarms) {
			t.Fatal("not as many as the tables have:", b.Counters(), b.Alarms())
		}
		for n, v := range b.Counters() {
			if v != 0 {
				t.Errorf("counter %d: %d", n, v)
			}
		}
		for n := range x.Alarms {
			notSet(t, b, n)
			is(t, "Cancel", b.Cancel(n), api.ENoFunc)
		}
		requestedAre(t, b)
		next(t, b, -1, open, -1)
		for n := range x.Isrs {
			answers(t, "Serve", b.Serve(n), api.ErrArg)
		}
		stands(t, b, newBook(x))
	}
}

// P21.1: tables in which one thing is not so are refused.
func TestNewRefuses(t *testing.T) {
	for what, turn := range map[string]func(x *api.Tables){
		"nothing":                     func(x *api.Tables) { *x = api.Tables{} },
		"no task":                     func(x *api.Tables) { x.Tasks, x.Rings, x.Depth = nil, nil, 0 },
		"no mode":                     func(x *api.Tables) { x.Modes = 0 },
		"nine modes":                  func(x *api.Tables) { x.Modes = 9 },
		"fewer modes than starts":     func(x *api.Tables) { x.Modes = 2 },
		"uses":                        func(x *api.Tables) { x.Uses = -1 },
		"a ring's capacity":           func(x *api.Tables) { x.Rings[0].Capacity++ },
		"a task's limit":              func(x *api.Tables) { x.Tasks[0].Limit = 0 },
		"a resource":                  func(x *api.Tables) { x.Resources = []api.ResourceRow{{Ceiling: 128}} },
		"a message":                   func(x *api.Tables) { x.Messages = []api.MessageRow{{}} },
		"no counter":                  func(x *api.Tables) { x.Counters = nil },
		"17 counters":                 func(x *api.Tables) { x.Counters = append(x.Counters, greatest().Counters[:13]...) },
		"Max 0":                       func(x *api.Tables) { x.Counters[3] = api.CounterRow{Max: 0, Base: 1, Min: 0} },
		"Max too great":               func(x *api.Tables) { x.Counters[3].Max = 1 << 31 },
		"Min 0":                       func(x *api.Tables) { x.Counters[3].Min = 0 },
		"Min above Max":               func(x *api.Tables) { x.Counters[3].Min = 5 },
		"Base 0":                      func(x *api.Tables) { x.Counters[3].Base = 0 },
		"65 alarms":                   func(x *api.Tables) { *x = alarmsOf(65) },
		"an alarm of no counter":      func(x *api.Tables) { x.Alarms[3].Counter = 4 },
		"an alarm of a counter below": func(x *api.Tables) { x.Alarms[3].Counter = -1 },
		"an alarm's start":            func(x *api.Tables) { x.Alarms[4].Auto = 8 },
		"Time 0":                      func(x *api.Tables) { x.Alarms[4].Time = 0 },
		"Time above Max":              func(x *api.Tables) { x.Alarms[4].Time = 4 },
		"Time without a start":        func(x *api.Tables) { x.Alarms[3].Time = 1 },
		"Cycle below Min":             func(x *api.Tables) { x.Alarms[5].Cycle = 1 },
		"Cycle above Max":             func(x *api.Tables) { x.Alarms[5].Cycle = 10 },
		"Cycle without a start":       func(x *api.Tables) { x.Alarms[3].Cycle = 2 },
		"an action that is none":      func(x *api.Tables) { x.Alarms[3].Action.Kind = 0 },
		"an action of a flag":         func(x *api.Tables) { x.Alarms[3].Action.Kind = api.ActFlag },
		"an action of no task":        func(x *api.Tables) { x.Alarms[3].Action.Task = 1 },
		"33 ISRs":                     func(x *api.Tables) { *x = isrsOf(33) },
		"category 0":                  func(x *api.Tables) { x.Isrs[2].Category = 0 },
		"category 3":                  func(x *api.Tables) { x.Isrs[1].Category = 3 },
		"priority 63":                 func(x *api.Tables) { x.Isrs[2].Priority = 63 },
		"priority 128":                func(x *api.Tables) { x.Isrs[1].Priority = 128 },
		"one priority twice":          func(x *api.Tables) { x.Isrs[0].Priority = 80 },
		"category 1 below 2":          func(x *api.Tables) { x.Isrs[3].Priority = 79 },
		"an ISR's own":                func(x *api.Tables) { x.Isrs[0].Own = []int{0} },
		"depth":                       func(x *api.Tables) { x.Depth = 0 },
		"frames":                      func(x *api.Tables) { x.Frames-- },
		"errors":                      func(x *api.Tables) { x.Errors = 2 },
		"callbacks":                   func(x *api.Tables) { x.Callbacks = 0 },
	} {
		x := ordinary()
		turn(&x)
		if table.Check(x) == api.OK {
			t.Errorf("%q: Check takes it", what)
		}
		if b, e := tick.New(x); b != nil || e != api.ErrCounter {
			t.Errorf("%q: New: %v %d", what, b, e)
		}
	}
}

// alarmsOf are tables with n alarms of one counter.
func alarmsOf(n int) api.Tables {
	return fitted(api.Tables{Counters: []api.CounterRow{{Max: 9, Base: 1, Min: 1}}, Alarms: make([]api.AlarmRow, n)})
}

// isrsOf are tables with n ISRs, the first of the greatest priority.
func isrsOf(n int) api.Tables {
	var x api.Tables
	for k := range n {
		x.Isrs = append(x.Isrs, api.IsrRow{Category: 1, Priority: 127 - k})
	}
	return fitted(x)
}

// P21.1: tables that are made of a configuration.
func TestOfAConfiguration(t *testing.T) {
	wakes := func(task int) api.Action { return api.Action{Kind: api.ActTask, Task: task} }
	x, e := table.Make(api.Config{
		CPU:      "c",
		OS:       api.Os{Name: "o"},
		Modes:    []string{"m", "n"},
		Tasks:    []api.Task{{Name: "t", Priority: 1, Full: true, Activation: 1}},
		Counters: []api.Counter{{Name: "slow", Max: 4, Base: 100, Min: 1}, {Name: "fast", Max: 99, Base: 3, Min: 5}},
		Alarms: []api.Alarm{
			{Name: "a", Counter: 1, Action: wakes(0), Auto: []int{1}, Time: 7, Cycle: 5},
			{Name: "b", Counter: 0, Action: wakes(0), Auto: []int{0, 1}, Time: 2},
		},
		Isrs: []api.Isr{{Name: "i", Category: 2, Priority: 64}, {Name: "j", Category: 1, Priority: 65}},
	})
	if e != api.OK {
		t.Fatal("Make:", e)
	}
	b := made(t, x)
	starts(t, b, 1, 2)
	if v, s := b.Base(0); v != [3]uint32{99, 3, 5} || s != api.EOK {
		t.Error("Base(0):", v, s)
	}
	if v, s := b.Base(1); v != [3]uint32{4, 100, 1} || s != api.EOK {
		t.Error("Base(1):", v, s)
	}
	ticks(t, b, 0, 2, 1)
	ticks(t, b, 1, 7, 0)
	ticks(t, b, 1, 5, 0)
	ticks(t, b, 0, 4)
	countersAre(t, b, 1, 12)
	requests(t, b, 0, 1)
	next(t, b, 9, open, 1)
	next(t, b, 9, api.Gate{Os: 1}, 1)
}

// P21.1, P21.2: as many of all as may be: counters at their greatest, alarms of each, and those of one counter.
func TestAsManyAsMayBe(t *testing.T) {
	x := greatest()
	b, k := made(t, x), newBook(x)
	for mode := range api.MaxModes {
		starts(t, b, mode, 8)
		k.auto(mode)
	}
	for n := range x.Isrs {
		requests(t, b, n)
		k.request(n)
		stands(t, b, k)
	}
	for c := range x.Counters {
		ticks(t, b, c, 3)
		k.ticks[c] = 3
	}
	stands(t, b, k)
	alarmIs(t, b, 63, api.MaxTick-3, api.MaxTick)
	is(t, "Cancel", b.Cancel(63), api.EOK)
	is(t, "Abs", b.Abs(63, 3, 1), api.EOK)
	alarmIs(t, b, 63, 1<<31, 1)
	answers(t, "Calm", b.Calm(), api.OK)
	k.calm()
	stands(t, b, k)

	b = made(t, alarmsOf(64))
	var all []int
	for n := range 64 {
		all = append(all, n)
		is(t, "Rel", b.Rel(63-n, 5, 3), api.EOK)
	}
	ticks(t, b, 0, 5, all...)
	ticks(t, b, 0, 3, all...)
}

// P21.5: without ISRs, P21.3: without alarms, P21.2: without counters there is none.
func TestOfNothing(t *testing.T) {
	b := made(t, fitted(api.Tables{}))
	for _, n := range append([]int{0, 1}, beyond...) {
		is(t, "Request", b.Request(n), api.EID)
		answers(t, "Serve", b.Serve(n), api.ErrArg)
		is(t, "Rel", b.Rel(n, 1, 0), api.EID)
		if l, e := b.Tick(n); len(l) != 0 || e != api.ErrArg {
			t.Error("Tick:", l, e)
		}
	}
	starts(t, b, 0, 0)
	answers(t, "Calm", b.Calm(), api.OK)
	c := b.Copy()
	if c == nil {
		t.Fatal("no copy")
	}
	starts(t, c, 0, 0)
	next(t, c, -1, open, -1)
}

// notMade: every call of a board that New did not give.
func notMade(t *testing.T, b *tick.Board, n int) {
	t.Helper()
	if l, e := b.Tick(n); len(l) != 0 || e != api.ErrNil {
		t.Error("Tick:", l, e)
	}
	if v, s := b.Base(n); v != [3]uint32{} || s != api.EID {
		t.Error("Base:", v, s)
	}
	left(t, b, n, 0, api.EID)
	is(t, "Rel", b.Rel(n, 1, 0), api.EID)
	is(t, "Abs", b.Abs(n, 0, 0), api.EID)
	is(t, "Cancel", b.Cancel(n), api.EID)
	if k, e := b.Auto(n); k != 0 || e != api.ErrNil {
		t.Error("Auto:", k, e)
	}
	if len(b.Counters()) != 0 || len(b.Alarms()) != 0 {
		t.Error("counters, alarms:", b.Counters(), b.Alarms())
	}
	is(t, "Request", b.Request(n), api.EID)
	requestedAre(t, b)
	next(t, b, n, open, -1)
	answers(t, "Serve", b.Serve(n), api.ErrNil)
	answers(t, "Calm", b.Calm(), api.ErrNil)
	if b.Copy() != nil {
		t.Error("a copy of nothing")
	}
}

// R1: boards that New did not give.
func TestNotMade(t *testing.T) {
	for _, b := range []*tick.Board{nil, {}, new(tick.Board)} {
		for _, n := range append([]int{0, 1, 2, 0}, beyond...) {
			notMade(t, b, n)
		}
	}
}
