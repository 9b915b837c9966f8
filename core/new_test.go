package core_test

import (
	"reflect"
	"testing"

	"tappet/api"
	"tappet/core"
	"tappet/table"
)

// P20.1: at first all tasks are suspended, nobody runs, nothing is set or held.
func TestFirst(t *testing.T) {
	for _, x := range []api.Tables{examples(), small(), ordinary()} {
		c := made(t, x)
		l := c.Look()
		for n, look := range l.Tasks {
			want := api.TaskLook{State: api.Suspended, Priority: x.Tasks[n].Priority}
			if look.Held = nil; !reflect.DeepEqual(look, want) {
				t.Errorf("task %d: %+v", n, look)
			}
			if len(c.Held(task(n))) != 0 {
				t.Errorf("task %d holds %v", n, c.Held(task(n)))
			}
		}
		for place, ring := range l.Rings {
			if len(ring) != 0 {
				t.Errorf("ring %d: %v", place, ring)
			}
		}
		if len(l.Tasks) != len(x.Tasks) || len(l.Rings) != len(x.Rings) || len(l.Preempted) != 0 || l.Leaving != api.LeaveNone {
			t.Errorf("Look: %+v", l)
		}
		if c.Running() != -1 || c.Waiting() || c.Due() || c.Leaving() != api.LeaveNone {
			t.Error("somebody runs, or would:", c.Running(), c.Waiting(), c.Due(), c.Leaving())
		}
		stands(t, c, newBook(x))
	}
}

// P20.1: tables in which one thing is not so are refused.
func TestNewRefuses(t *testing.T) {
	for what, turn := range map[string]func(x *api.Tables){
		"nothing":                  func(x *api.Tables) { *x = api.Tables{} },
		"no task":                  func(x *api.Tables) { *x = api.Tables{Modes: 1, Frames: 4, Errors: 2} },
		"no mode":                  func(x *api.Tables) { x.Modes = 0 },
		"nine modes":               func(x *api.Tables) { x.Modes = 9 },
		"uses":                     func(x *api.Tables) { x.Uses = 256 },
		"257 tasks":                func(x *api.Tables) { x.Tasks = make([]api.TaskRow, 257) },
		"a ring's capacity":        func(x *api.Tables) { x.Rings[0].Capacity++ },
		"a ring's priority":        func(x *api.Tables) { x.Rings[0].Priority++ },
		"rings rise":               func(x *api.Tables) { x.Rings[0], x.Rings[1] = x.Rings[1], x.Rings[0] },
		"no rings":                 func(x *api.Tables) { x.Rings = nil },
		"a task's ring":            func(x *api.Tables) { x.Tasks[0].Ring = 0 },
		"a task's ring is not":     func(x *api.Tables) { x.Tasks[0].Ring = 99 },
		"a limit of 0":             func(x *api.Tables) { x.Tasks[1].Limit = 0 },
		"an extended one's limit":  func(x *api.Tables) { x.Tasks[1].Limit = 2; x.Rings[2].Capacity++ },
		"own falls":                func(x *api.Tables) { x.Tasks[0].Own = []int{2, 0} },
		"own that is internal":     func(x *api.Tables) { x.Tasks[0].Own = []int{1} },
		"own of a ceiling below":   func(x *api.Tables) { x.Tasks[1].Own = []int{3} },
		"internal below":           func(x *api.Tables) { x.Tasks[3].Internal = 0 },
		"internal -2":              func(x *api.Tables) { x.Tasks[0].Internal = -2 },
		"a ceiling above":          func(x *api.Tables) { x.Resources[1].Ceiling = 128 },
		"a mode of no such number": func(x *api.Tables) { x.Tasks[0].Auto = 2 },
		"an ISR's category":        func(x *api.Tables) { x.Isrs[0].Category = 3 },
		"an ISR's priority":        func(x *api.Tables) { x.Isrs[0].Priority = 63 },
		"a counter":                func(x *api.Tables) { x.Counters = []api.CounterRow{{}} },
		"an alarm of no counter":   func(x *api.Tables) { x.Alarms = []api.AlarmRow{{Action: api.ActionRow{Kind: api.ActTask}}} },
		"a message":                func(x *api.Tables) { x.Messages = []api.MessageRow{{}} },
		"depth above":              func(x *api.Tables) { x.Depth++ },
		"depth below":              func(x *api.Tables) { x.Depth-- },
		"frames":                   func(x *api.Tables) { x.Frames-- },
		"errors":                   func(x *api.Tables) { x.Errors = 1 },
		"callbacks":                func(x *api.Tables) { x.Callbacks = 1 },
	} {
		x := ordinary()
		turn(&x)
		if table.Check(x) == api.OK {
			t.Errorf("%q: Check takes it", what)
		}
		if c, e := core.New(x); c != nil || e != api.ErrCore {
			t.Errorf("%q: New: %v %d", what, c, e)
		}
	}
}

// P20.1: tables that are made of a configuration: the resources are the tasks' own, one is internal, RES_SCHEDULER is the last.
func TestOfAConfiguration(t *testing.T) {
	x, e := table.Make(api.Config{
		CPU:   "c",
		OS:    api.Os{Name: "o", Schedule: true},
		Modes: []string{"m"},
		Tasks: []api.Task{
			{Name: "low", Priority: 1, Full: true, Activation: 2, Resources: []int{0}},
			{Name: "mid", Priority: 2, Full: true, Activation: 1, Resources: []int{1}, Events: []int{0}},
			{Name: "high", Priority: 4, Full: true, Activation: 1, Resources: []int{0, 1}},
			{Name: "top", Priority: 9, Full: true, Activation: 1},
		},
		Resources: []api.Resource{{Name: "r", Kind: api.ResStandard}, {Name: "i", Kind: api.ResInternal}},
		Events:    []api.Event{{Name: "e", Mask: 4}},
	})
	if e != api.OK {
		t.Fatal("Make:", e)
	}
	c := made(t, x)
	activates(t, c, 0)
	runs(t, c, 0)
	is(t, "Get", c.Get(task(0), 0), api.EOK)
	activates(t, c, 1)
	due(t, c, false) // the ceiling is 4
	is(t, "Release", c.Release(task(0), 0), api.EOK)
	due(t, c, true)
	preempts(t, c, 0, 1)
	activates(t, c, 2)
	due(t, c, false) // so is that of the internal one
	is(t, "Get of RES_SCHEDULER", c.Get(task(1), 2), api.EOK)
	activates(t, c, 3)
	due(t, c, false)
	is(t, "Get of the internal one", c.Get(task(1), 1), api.EID)
	is(t, "Release of RES_SCHEDULER", c.Release(task(1), 2), api.EOK)
	due(t, c, true)
	preempts(t, c, 1, 3)
	is(t, "Terminate", c.Terminate(), api.EOK)
	carries(t, c, 3)
	runs(t, c, 1)
	is(t, "WaitEvent", c.WaitEvent(4), api.EOK)
	carries(t, c, 1)
	runs(t, c, 2)
}

// P20.1, P20.2, P20.11: as many of all as may be: every ring is filled, every task starts as often as it may, by falling priority.
func TestAsManyAsMayBe(t *testing.T) {
	var x api.Tables
	for n := range api.MaxTasks {
		x.Tasks = append(x.Tasks, api.TaskRow{Priority: n % 64, Full: true, Limit: 255, Internal: 127})
	}
	x = fitted(x)
	c := made(t, x)
	for n := range api.MaxTasks {
		for range 255 {
			activates(t, c, n)
		}
		is(t, "Activate", c.Activate(n), api.ELimit)
	}
	keepsTheRules(t, c, x)
	for p := 63; p >= 0; p-- {
		for n := p; n < api.MaxTasks; n += 64 {
			for range 255 {
				runs(t, c, n)
				is(t, "Terminate", c.Terminate(), api.EOK)
				carries(t, c, n)
			}
			stateOf(t, c, n, api.Suspended)
		}
	}
	runsNot(t, c, api.ErrState)
}

// P20.6, P20.11: all priorities preempted, one above the other, also of one ring: the stack has room.
func TestAllPreempted(t *testing.T) {
	var x api.Tables
	for n := range api.MaxPriority + 1 {
		x.Tasks = append(x.Tasks, api.TaskRow{Priority: n, Full: true, Internal: -1})
	}
	for range 192 {
		x.Tasks = append(x.Tasks, api.TaskRow{Priority: 0, Full: true, Internal: -1})
	}
	x = fitted(x)
	c := made(t, x)
	for n := range api.MaxPriority + 1 {
		activates(t, c, n)
		if n > 0 {
			due(t, c, true)
			preempts(t, c, n-1, n)
		} else {
			runs(t, c, n)
		}
	}
	if e := c.Preempt(); e != api.OK {
		t.Fatal("Preempt of the greatest:", e)
	}
	carries(t, c, 63)
	l := c.Look()
	for n := range 64 {
		if len(l.Preempted) != 64 || l.Preempted[n] != n {
			t.Fatal("preempted:", l.Preempted)
		}
	}
	activates(t, c, 64)
	for n := 63; n >= 0; n-- {
		runs(t, c, n)
		is(t, "Terminate", c.Terminate(), api.EOK)
		carries(t, c, n)
	}
	runs(t, c, 64)
}

// notMade: every call of a core that no call made.
func notMade(t *testing.T, c *core.Core, n int) {
	t.Helper()
	for what, s := range map[string]api.Status{
		"Activate": c.Activate(n), "Terminate": c.Terminate(), "Chain": c.Chain(n), "Schedule": c.Schedule(), "Abort": c.Abort(),
		"SetEvent": c.SetEvent(n, 1), "ClearEvent": c.ClearEvent(1), "WaitEvent": c.WaitEvent(1),
		"Get": c.Get(task(n), 0), "Get of an ISR": c.Get(isr(n), n), "Release": c.Release(task(n), 0),
	} {
		is(t, what, s, api.EID)
	}
	eventsOf(t, c, n, 0, api.EID)
	if s, e := c.State(n); s != 0 || e != api.EID {
		t.Error("State:", s, e)
	}
	if r, held := c.Drop(task(n)); r != 0 || held {
		t.Error("Drop:", r, held)
	}
	if h, p := c.Held(task(n)), c.Priority(isr(n)); len(h) != 0 || p != -1 {
		t.Error("Held, Priority:", h, p)
	}
	if m, e := c.Carry(); m != -1 || e != api.ErrNil {
		t.Error("Carry:", m, e)
	}
	runsNot(t, c, api.ErrNil)
	if e := c.Preempt(); e != api.ErrNil {
		t.Error("Preempt:", e)
	}
	leaves(t, c, api.LeaveNone)
	due(t, c, false)
	if c.Waiting() || c.Running() != -1 {
		t.Error("Waiting, Running:", c.Waiting(), c.Running())
	}
	if l := c.Look(); !reflect.DeepEqual(l, api.CoreLook{}) {
		t.Error("Look:", l)
	}
	c.Reset()
	if c.Copy() != nil {
		t.Error("a copy of nothing")
	}
}

// R1: cores that New did not make, also one that was given a lock.
func TestNotMade(t *testing.T) {
	for _, c := range []*core.Core{nil, {}, new(core.Core), {Lock: made(t, ordinary()).Lock}} {
		for _, n := range append([]int{0, 1, 2}, beyond...) {
			notMade(t, c, n)
		}
		if c != nil && !reflect.DeepEqual(core.Core{Lock: c.Lock}, *c) {
			t.Error("something was changed")
		}
	}
}
