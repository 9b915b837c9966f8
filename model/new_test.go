package model_test

import (
	"reflect"
	"strconv"
	"testing"

	"tappet/api"
	"tappet/class"
	"tappet/model"
)

// P23.1: at first the machine is off, all tasks are suspended, all counters 0, no alarm is set, nothing else is there.
func TestFirst(t *testing.T) {
	for _, c := range []api.Config{example(), ordinary(), bare(), small(api.Os{})} {
		m := made(t, c)
		l := plain(m.Look())
		priorities, _ := rungs(c)
		want := api.Look{Phase: api.Off, Held: make([][]int, len(c.Isrs)), Counters: make([]uint32, len(c.Counters)), Alarms: make([]api.AlarmLook, len(c.Alarms)), Rings: make([][]int, len(priorities))}
		for _, x := range c.Tasks {
			want.Tasks = append(want.Tasks, api.TaskLook{State: api.Suspended, Priority: x.Priority})
		}
		if want = plain(want); !reflect.DeepEqual(l, want) {
			t.Errorf("Look: %+v, not %+v", l, want)
		}
		for _, s := range []api.Step{call(api.SvGetTaskID), ret(), irq(0), tick(0), irq(99), tick(99), call(99), call(api.SvStartOS)} {
			idles(t, m.Step(s), none)
		}
		if l := plain(m.Look()); !reflect.DeepEqual(l, want) {
			t.Errorf("Look behind idle steps: %+v", l)
		}
	}
}

// P23.1, P23.3: a configuration that may not be is refused, whichever kind is at fault.
func TestNewRefuses(t *testing.T) {
	for what, turn := range map[string]func(c *api.Config){
		"nothing":                   func(c *api.Config) { *c = api.Config{} },
		"no name of the CPU":        func(c *api.Config) { c.CPU = "" },
		"no name of the OS":         func(c *api.Config) { c.OS.Name = "1" },
		"no mode":                   func(c *api.Config) { c.Modes = nil },
		"nine modes":                func(c *api.Config) { c.Modes = []string{"a", "b", "c", "d", "e", "f", "g", "h", "i"} },
		"a resource's kind":         func(c *api.Config) { c.Resources[0].Kind = 4 },
		"a link to itself":          func(c *api.Config) { c.Resources[0].Kind = api.ResLinked },
		"a link to an internal one": func(c *api.Config) { c.Resources[0] = api.Resource{Name: "r", Kind: api.ResLinked, Link: 1} },
		"an event's mask":           func(c *api.Config) { c.Events[0].Mask = 0 },
		"no task":                   func(c *api.Config) { c.Tasks = nil },
		"a priority below":          func(c *api.Config) { c.Tasks[0].Priority = -1 },
		"a priority above":          func(c *api.Config) { c.Tasks[0].Priority = 64 },
		"no activation":             func(c *api.Config) { c.Tasks[0].Activation = 0 },
		"an extended one started twice": func(c *api.Config) {
			c.Tasks[1].Activation = 2
		},
		"a mode that is none":     func(c *api.Config) { c.Tasks[0].Auto = []int{2} },
		"a resource that is none": func(c *api.Config) { c.Tasks[0].Resources = []int{0, 4} },
		"resources that fall":     func(c *api.Config) { c.Tasks[0].Resources = []int{2, 0} },
		"an event that is none":   func(c *api.Config) { c.Tasks[1].Events = []int{3} },
		"a message that is none":  func(c *api.Config) { c.Tasks[2].Messages = []int{2} },
		"a counter":               func(c *api.Config) { c.Counters[0].Max = 0 },
		"an alarm of no counter":  func(c *api.Config) { c.Alarms[0].Counter = 2 },
		"an alarm's time":         func(c *api.Config) { c.Alarms[0].Time = 10 },
		"an action of no task":    func(c *api.Config) { c.Alarms[0].Action.Task = 6 },
		"an event of another":     func(c *api.Config) { c.Alarms[1].Action.Event = 2 },
		"an ISR's category":       func(c *api.Config) { c.Isrs[0].Category = 3 },
		"an ISR's priority":       func(c *api.Config) { c.Isrs[0].Priority = 63 },
		"two ISRs of one priority": func(c *api.Config) {
			c.Isrs[1].Priority = 70
		},
		"an ISR's internal resource": func(c *api.Config) { c.Isrs[0].Resources = []int{1} },
		"a message":                  func(c *api.Config) { c.Messages[0].Length = 3 },
	} {
		c := ordinary()
		turn(&c)
		if class.Check(c).Code == api.OK {
			t.Errorf("%q: Check takes it", what)
		}
		if m, e := model.New(c); m != nil || e != api.ErrStep {
			t.Errorf("%q: New: %v %d", what, m, e)
		}
		if l, e := model.Run(c, []api.Step{start(0)}); len(l) != 0 || e != api.ErrStep {
			t.Errorf("%q: Run: %v %d", what, l, e)
		}
	}
}

// greatest has as many of all as may be, with all hooks.
func greatest() api.Config {
	c := api.Config{CPU: "c", OS: api.Os{Name: "o", Startup: true, Error: true, Shutdown: true, PreTask: true, PostTask: true, Schedule: true}}
	for n := range api.MaxModes {
		c.Modes = append(c.Modes, "m"+strconv.Itoa(n))
	}
	for n := range api.MaxResources {
		c.Resources = append(c.Resources, api.Resource{Name: name(n), Kind: api.ResStandard})
	}
	for n := range api.MaxEvents {
		c.Events = append(c.Events, api.Event{Name: name(n), Mask: 1 << (n % 32)})
	}
	for n := range api.MaxTasks {
		c.Tasks = append(c.Tasks, api.Task{Name: name(n), Priority: n % 64, Full: true, Activation: 255, Auto: []int{n % 8}, Resources: []int{n % 64}})
	}
	for n := range api.MaxCounters {
		c.Counters = append(c.Counters, api.Counter{Name: name(n), Max: api.MaxTick, Base: api.MaxTick, Min: 1})
	}
	for n := range api.MaxAlarms {
		a := api.Alarm{Name: name(n), Action: api.Action{Kind: api.ActCallback, Name: "f"}, Auto: []int{7}, Time: 1, Cycle: 1}
		if n%2 == 1 {
			a.Action = api.Action{Kind: api.ActTask, Task: n}
		}
		c.Alarms = append(c.Alarms, a)
	}
	for n := range api.MaxIsrs {
		c.Isrs = append(c.Isrs, api.Isr{Name: name(n), Category: 2, Priority: 64 + n})
	}
	return c
}

// P23.4: as many of all as may be: each ISR above the others, a callback and an error above these; rings that are filled.
func TestAsManyAsMayBe(t *testing.T) {
	p := newPair(t, greatest())
	m := p.m
	runs(t, p.step(t, start(7)), api.Frame{Kind: api.FStartup}, api.Frame{Kind: api.FStartup})
	runs(t, p.step(t, ret()), pre(63), pre(63))
	runs(t, p.step(t, ret()), task(63))
	is(t, p.step(t, call(api.SvGetResource, 63)), api.EOK)
	is(t, p.step(t, call(api.SvGetResource, 64)), api.EOK) // RES_SCHEDULER
	for n := range api.MaxIsrs {
		runs(t, p.step(t, irq(n)), isr(n))
	}
	for n := range api.MaxTasks {
		for range 255 - m.Look().Tasks[n].Active {
			is(t, m.Step(call(api.SvActivateTask, uint32(n))), api.EOK)
			p.k.Step(call(api.SvActivateTask, uint32(n)))
		}
	}
	p.stands(t)
	for i, r := range m.Look().Rings {
		want := 4 * 255
		if i == 0 {
			want-- // the task 63 runs
		}
		if len(r) != want {
			t.Errorf("ring %d: %d, not %d", i, len(r), want)
		}
	}
	a := p.step(t, tick(0))
	if len(a.Expired) != 64 || a.Run != failed(api.ELimit, 4, 1) || len(a.Begun) != 1 {
		t.Fatalf("tick: %+v", a)
	}
	for n := 3; n < 64; n += 2 {
		runs(t, m.Step(ret()), failed(api.ELimit, 4, uint32(n)), failed(api.ELimit, 4, uint32(n)))
		p.k.Step(ret())
	}
	runs(t, p.step(t, ret()), callback(0), callback(0))
	runs(t, p.step(t, call(api.SvGetTaskID)), failed(api.ECallLevel, 8, 0), failed(api.ECallLevel, 8, 0))
	if n := len(m.Look().Frames); n != 35 {
		t.Fatal("frames:", n)
	}
	runs(t, p.step(t, ret()), callback(0))
	for n := 2; n < 64; n += 2 {
		runs(t, m.Step(ret()), callback(n), callback(n))
		p.k.Step(ret())
	}
	for n := api.MaxIsrs - 1; n >= 0; n-- {
		runs(t, p.step(t, ret()), isr(n))
	}
	runs(t, p.step(t, ret()), task(63))
	p.stands(t)
}

// R1, P23.2, P23.3: machines that New did not give: every step is idle.
func TestNotMade(t *testing.T) {
	for _, m := range []*model.Model{nil, {}, new(model.Model)} {
		for _, s := range []api.Step{start(0), start(-1), call(api.SvActivateTask, 0), call(99), ret(), irq(0), tick(0), {}, {Kind: 77}} {
			idles(t, m.Step(s), none)
		}
		if l := m.Look(); !reflect.DeepEqual(l, api.Look{}) {
			t.Errorf("Look: %+v", l)
		}
		if m.Copy() != nil {
			t.Error("a copy of nothing")
		}
		if m != nil && !reflect.DeepEqual(*m, model.Model{}) {
			t.Error("something was changed")
		}
	}
}
