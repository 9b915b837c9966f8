package kernel_test

import (
	"reflect"
	"testing"

	"tappet/api"
	"tappet/image"
	"tappet/kernel"
	"tappet/table"
)

// P22.1: at first the kernel is off, all tasks are suspended, all counters 0, no alarm is set, nothing else is there.
func TestFirst(t *testing.T) {
	for _, x := range []api.Tables{ordinary(), bare(), small(0)} {
		for _, k := range []*kernel.Kernel{made(t, x), booted(t, x)} {
			l := k.Look()
			if l.Phase != api.Off || l.Mode != 0 || len(l.Frames)+len(l.Requested)+len(l.Preempted) != 0 || l.Shut || l.All+l.Os != 0 {
				t.Errorf("Look: %+v", l)
			}
			if len(l.Tasks) != len(x.Tasks) || len(l.Rings) != len(x.Rings) || len(l.Held) != len(x.Isrs) || len(l.Counters) != len(x.Counters) || len(l.Alarms) != len(x.Alarms) {
				t.Errorf("not as many as the tables have: %+v", l)
			}
			for n, look := range l.Tasks {
				if look.Held = nil; !reflect.DeepEqual(look, api.TaskLook{State: api.Suspended, Priority: x.Tasks[n].Priority}) {
					t.Errorf("task %d: %+v", n, look)
				}
			}
			stands(t, k, newBook(x))
			for _, s := range []api.Step{call(api.SvGetTaskID), ret(), irq(0), tick(0), irq(99), tick(99), call(99)} {
				idles(t, k.Step(s), none)
			}
			stands(t, k, newBook(x))
		}
	}
}

// P22.1: tables in which one thing is not so are refused.
func TestNewRefuses(t *testing.T) {
	for what, turn := range map[string]func(x *api.Tables){
		"nothing":                  func(x *api.Tables) { *x = api.Tables{} },
		"no task":                  func(x *api.Tables) { *x = api.Tables{Modes: 1, Frames: 4, Errors: 2} },
		"no mode":                  func(x *api.Tables) { x.Modes = 0 },
		"nine modes":               func(x *api.Tables) { x.Modes = 9 },
		"uses":                     func(x *api.Tables) { x.Uses = 256 },
		"a ring's capacity":        func(x *api.Tables) { x.Rings[0].Capacity++ },
		"rings rise":               func(x *api.Tables) { x.Rings[0], x.Rings[1] = x.Rings[1], x.Rings[0] },
		"a task's ring":            func(x *api.Tables) { x.Tasks[0].Ring = 0 },
		"a limit of 0":             func(x *api.Tables) { x.Tasks[1].Limit = 0 },
		"own of a ceiling below":   func(x *api.Tables) { x.Tasks[4].Own = []int{0} },
		"internal below":           func(x *api.Tables) { x.Tasks[3].Internal = 0 },
		"a ceiling above":          func(x *api.Tables) { x.Resources[1].Ceiling = 128 },
		"a mode of no such number": func(x *api.Tables) { x.Tasks[0].Auto = 4 },
		"an ISR's category":        func(x *api.Tables) { x.Isrs[0].Category = 3 },
		"an ISR's priority":        func(x *api.Tables) { x.Isrs[0].Priority = 63 },
		"a counter":                func(x *api.Tables) { x.Counters[0].Max = 0 },
		"an alarm of no counter":   func(x *api.Tables) { x.Alarms[0].Counter = 2 },
		"an action of no task":     func(x *api.Tables) { x.Alarms[0].Action.Task = 6 },
		"an event that is not":     func(x *api.Tables) { x.Alarms[1].Action.Mask = 4 },
		"a message":                func(x *api.Tables) { x.Messages[0].Length = 3 },
		"depth":                    func(x *api.Tables) { x.Depth++ },
		"frames above":             func(x *api.Tables) { x.Frames++ },
		"frames below":             func(x *api.Tables) { x.Frames-- },
		"errors":                   func(x *api.Tables) { x.Errors = 2 },
		"callbacks":                func(x *api.Tables) { x.Callbacks = 2 },
	} {
		x := ordinary()
		turn(&x)
		if table.Check(x) == api.OK {
			t.Errorf("%q: Check takes it", what)
		}
		if k, e := kernel.New(x); k != nil || e != api.ErrKernel {
			t.Errorf("%q: New: %v %d", what, k, e)
		}
	}
}

// P22.1: Boot answers what image.Decode does.
func TestBootRefuses(t *testing.T) {
	b := encoded(t, ordinary())
	turned := append([]byte(nil), b...)
	turned[40] ^= 1
	for what, bytes := range map[string][]byte{
		"nothing": nil, "three bytes": b[:3], "another one": []byte("an image that is none of these kinds"), "half": b[:len(b)/2],
		"a byte less": b[:len(b)-1], "a byte more": append(append([]byte(nil), b...), 0), "a byte turned": turned,
	} {
		_, want := image.Decode(bytes)
		if k, e := kernel.Boot(bytes); k != nil || e != want || e == api.OK {
			t.Errorf("%q: Boot: %v %d, not %d", what, k, e, want)
		}
	}
	for n := range b {
		c := append([]byte(nil), b...)
		c[n] ^= 0x10
		_, want := image.Decode(c)
		if k, e := kernel.Boot(c); k != nil || e != want {
			t.Fatalf("byte %d: Boot: %v %d, not %d", n, k, e, want)
		}
	}
	if _, e := kernel.Boot(b[:3]); e != api.ErrImage {
		t.Error("three bytes:", e)
	}
	if _, e := kernel.Boot(turned); e != api.ErrSum {
		t.Error("a byte turned:", e)
	}
}

// P22.1, P22.7: a kernel that boots from an image is like one of the tables, and both are like the machine of the configuration.
func TestOfAConfiguration(t *testing.T) {
	x, e := table.Make(api.Config{
		CPU:   "c",
		OS:    api.Os{Name: "o", Error: true, PreTask: true, Schedule: true},
		Modes: []string{"m", "n"},
		Tasks: []api.Task{
			{Name: "low", Priority: 1, Full: true, Activation: 2, Auto: []int{0, 1}, Resources: []int{0}},
			{Name: "mid", Priority: 2, Full: true, Activation: 1, Auto: []int{1}, Resources: []int{1}, Events: []int{0}},
			{Name: "high", Priority: 4, Full: true, Activation: 1, Resources: []int{0, 1}},
		},
		Resources: []api.Resource{{Name: "r", Kind: api.ResStandard}, {Name: "i", Kind: api.ResInternal}},
		Events:    []api.Event{{Name: "e", Mask: 4}},
		Counters:  []api.Counter{{Name: "k", Max: 4, Base: 100, Min: 1}},
		Alarms:    []api.Alarm{{Name: "a", Action: api.Action{Kind: api.ActEvent, Task: 1}, Auto: []int{1}, Time: 2, Cycle: 3}},
		Isrs:      []api.Isr{{Name: "j", Category: 2, Priority: 64, Resources: []int{0}}},
	})
	if e != api.OK {
		t.Fatal("Make:", e)
	}
	c := chance(7)
	for range 20 {
		p, q := &pair{booted(t, x), newBook(x)}, newPair(t, x)
		for range 300 {
			s := c.step(p.b)
			a, b := plainAnswer(p.step(t, s)), plainAnswer(q.k.Step(s))
			if !reflect.DeepEqual(a, b) {
				t.Fatalf("%+v: %+v, not %+v", s, a, b)
			}
			p.stands(t)
			stands(t, q.k, p.b)
			hasRoom(t, p.k, x)
		}
	}
}

// greatest are as many of all as may be, with all hooks.
func greatest() api.Tables {
	x := api.Tables{Uses: 127, Modes: api.MaxModes}
	for n := range api.MaxTasks {
		x.Tasks = append(x.Tasks, api.TaskRow{Priority: n % 64, Full: true, Limit: 255, Internal: -1, Auto: 1 << (n % 8)})
	}
	for range api.MaxCounters {
		x.Counters = append(x.Counters, api.CounterRow{Max: api.MaxTick, Base: api.MaxTick, Min: 1})
	}
	for n := range api.MaxAlarms {
		a := api.AlarmRow{Action: api.ActionRow{Kind: api.ActCallback}, Auto: 128, Time: 1, Cycle: 1}
		if n%2 == 1 {
			a.Action = api.ActionRow{Kind: api.ActTask, Task: n}
		}
		x.Alarms = append(x.Alarms, a)
	}
	for n := range api.MaxIsrs {
		x.Isrs = append(x.Isrs, api.IsrRow{Category: 2, Priority: 64 + n})
	}
	return fitted(x)
}

// P22.5, P22.7, W3: as many of all as may be: each ISR above the others, a hook, a callback and an error above these; rings that are filled; errors of all alarms of one counter, callbacks of all alarms.
func TestAsManyAsMayBe(t *testing.T) {
	x := greatest()
	k := made(t, x)
	runs(t, k.Step(start(7)), api.Frame{Kind: api.FStartup}, api.Frame{Kind: api.FStartup})
	runs(t, k.Step(ret()), pre(63), pre(63))
	runs(t, k.Step(ret()), task(63))
	for n := range api.MaxIsrs {
		runs(t, k.Step(irq(n)), isr(n))
	}
	for n := range api.MaxTasks {
		for range 255 - k.Look().Tasks[n].Active {
			is(t, k.Step(call(api.SvActivateTask, uint32(n))), api.EOK)
		}
	}
	a := k.Step(tick(0))
	if len(a.Expired) != 64 || a.Run != failed(api.ELimit, 4, 1) || len(a.Begun) != 1 {
		t.Fatalf("tick: %+v", a)
	}
	for n := 3; n < 64; n += 2 {
		runs(t, k.Step(ret()), failed(api.ELimit, 4, uint32(n)), failed(api.ELimit, 4, uint32(n)))
	}
	runs(t, k.Step(ret()), callback(0), callback(0))
	runs(t, k.Step(call(api.SvGetTaskID)), failed(api.ECallLevel, 8, 0), failed(api.ECallLevel, 8, 0))
	if n := len(k.Look().Frames); n != 35 {
		t.Fatal("frames:", n)
	}
	m := k.Marks()
	if m.Frames != 35 || m.Errors != 32 || m.Callbacks != 32 || m.Preempted != 0 {
		t.Errorf("Marks: %+v", m)
	}
	for i, n := range m.Rings {
		want := x.Rings[i].Capacity
		if i == 0 {
			want-- // the task 63 runs
		}
		if n != want {
			t.Errorf("ring %d: %d, not %d", i, n, want)
		}
	}
	hasRoom(t, k, x)
	runs(t, k.Step(ret()), callback(0))
	for n := 2; n < 64; n += 2 {
		runs(t, k.Step(ret()), callback(n), callback(n))
	}
	for n := api.MaxIsrs - 1; n >= 0; n-- {
		runs(t, k.Step(ret()), isr(n))
	}
	runs(t, k.Step(ret()), task(63))
}

// R1: kernels that no call made: every step is idle.
func TestNotMade(t *testing.T) {
	for _, k := range []*kernel.Kernel{nil, {}, new(kernel.Kernel)} {
		script := []api.Step{start(0), start(-1), call(api.SvActivateTask, 0), call(99), ret(), irq(0), tick(0), {}, {Kind: 77}}
		for _, s := range script {
			idles(t, k.Step(s), none)
		}
		answers := k.Run(script)
		if len(answers) != len(script) {
			t.Error("Run:", answers)
		}
		for _, a := range answers {
			idles(t, a, none)
		}
		if len(k.Run(nil)) != 0 {
			t.Error("Run of nothing")
		}
		idles(t, k.Effect(api.Effect{Status: api.EID, Deeds: []api.Deed{{Action: api.ActionRow{Kind: api.ActCallback}}}}), none)
		if l := k.Look(); !reflect.DeepEqual(l, api.Look{}) {
			t.Errorf("Look: %+v", l)
		}
		if m := k.Marks(); !reflect.DeepEqual(m, api.Marks{}) {
			t.Errorf("Marks: %+v", m)
		}
		if e := k.Reset(); e != api.ErrNil {
			t.Error("Reset:", e)
		}
		if k.Copy() != nil {
			t.Error("a copy of nothing")
		}
		if k != nil && !reflect.DeepEqual(*k, kernel.Kernel{}) {
			t.Error("something was changed")
		}
	}
}
