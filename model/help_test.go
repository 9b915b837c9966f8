package model_test

import (
	"math"
	"slices"
	"testing"

	"tappet/api"
	"tappet/class"
	"tappet/level"
	"tappet/model"
)

// beyond are numbers of nothing, where there are at most 256 of a kind.
var beyond = []int{-1, -2, -8, -64, 256, 257, 1 << 16, 1 << 32, 1<<32 + 1, math.MaxInt, math.MinInt}

// example is the configuration of the chapter's examples.
func example() api.Config {
	return api.Config{
		CPU:   "c",
		OS:    api.Os{Name: "o", Error: true},
		Modes: []string{"m"},
		Tasks: []api.Task{{Name: "low", Priority: 1, Full: true, Activation: 1, Auto: []int{0}}, {Name: "high", Priority: 2, Full: true, Activation: 1}},
	}
}

// ordinary is a configuration with all that may be: all hooks, two modes; tasks 0 (low, starts by itself in the mode 0), 1 (extended, with the internal resource), 2 (not full), 3 (with the internal resource, in both modes), 4 (the greatest, extended), 5 (started twice, the priority of 0); resources 0 (of 0 and 1), 1 (internal, of ceiling 3), 2 (of the task 0 and the ISR 0), 3 (of the ISRs 0 and 1), 4 (RES_SCHEDULER); two counters; alarms 0 (activates 2), 1 (sets an event of 1), 2 (a callback), 3 (on the other counter, activates 5), 4 (a callback there); ISRs 0 and 1 of category 2, 2 of category 1.
func ordinary() api.Config {
	return api.Config{
		CPU:   "c",
		OS:    api.Os{Name: "o", Startup: true, Error: true, Shutdown: true, PreTask: true, PostTask: true, Service: true, Params: true, Schedule: true},
		Modes: []string{"m", "n"},
		Tasks: []api.Task{
			{Name: "a", Priority: 1, Full: true, Activation: 2, Auto: []int{0}, Resources: []int{0, 2}},
			{Name: "b", Priority: 3, Full: true, Activation: 1, Resources: []int{0, 1}, Events: []int{0, 1}},
			{Name: "c", Priority: 2, Activation: 1, Messages: []int{0}},
			{Name: "d", Priority: 2, Full: true, Activation: 2, Auto: []int{0, 1}, Resources: []int{1}},
			{Name: "e", Priority: 5, Full: true, Activation: 1, Events: []int{2}},
			{Name: "f", Priority: 1, Full: true, Activation: 2, Auto: []int{1}},
		},
		Resources: []api.Resource{{Name: "r", Kind: api.ResStandard}, {Name: "s", Kind: api.ResInternal}, {Name: "t", Kind: api.ResStandard}, {Name: "u", Kind: api.ResStandard}},
		Events:    []api.Event{{Name: "x", Mask: 1}, {Name: "y", Mask: 2}, {Name: "z", Mask: 4}},
		Counters:  []api.Counter{{Name: "k", Max: 9, Base: 4, Min: 2}, {Name: "l", Max: 3, Base: 1, Min: 1}},
		Alarms: []api.Alarm{
			{Name: "a", Action: api.Action{Kind: api.ActTask, Task: 2}, Auto: []int{0}, Time: 3, Cycle: 3},
			{Name: "b", Action: api.Action{Kind: api.ActEvent, Task: 1, Event: 1}},
			{Name: "c", Action: api.Action{Kind: api.ActCallback, Name: "f"}, Auto: []int{0, 1}, Time: 9},
			{Name: "d", Counter: 1, Action: api.Action{Kind: api.ActTask, Task: 5}},
			{Name: "e", Counter: 1, Action: api.Action{Kind: api.ActCallback, Name: "f"}},
		},
		Isrs:     []api.Isr{{Name: "i", Category: 2, Priority: 70, Resources: []int{2, 3}}, {Name: "j", Category: 2, Priority: 80, Resources: []int{3}, Messages: []int{0}}, {Name: "k", Category: 1, Priority: 90}},
		Messages: []api.Message{{Name: "m", Kind: api.MsgSend, Length: 1}, {Name: "n", Kind: api.MsgUnqueued, Action: api.Action{Kind: api.ActCallback, Name: "g"}}},
	}
}

// bare is the same configuration without hooks.
func bare() api.Config { return with(api.Os{}) }

// with is the same configuration with these hooks alone.
func with(hooks api.Os) api.Config {
	c := ordinary()
	hooks.Name, hooks.Schedule = "o", true
	c.OS = hooks
	return c
}

// copied is the same configuration in memory of its own.
func copied(c api.Config) api.Config {
	c.Modes, c.Tasks, c.Resources, c.Events = slices.Clone(c.Modes), slices.Clone(c.Tasks), slices.Clone(c.Resources), slices.Clone(c.Events)
	c.Counters, c.Alarms, c.Isrs, c.Messages = slices.Clone(c.Counters), slices.Clone(c.Alarms), slices.Clone(c.Isrs), slices.Clone(c.Messages)
	for i := range c.Tasks {
		t := &c.Tasks[i]
		t.Auto, t.Resources, t.Events, t.Messages = slices.Clone(t.Auto), slices.Clone(t.Resources), slices.Clone(t.Events), slices.Clone(t.Messages)
	}
	for i := range c.Alarms {
		c.Alarms[i].Auto = slices.Clone(c.Alarms[i].Auto)
	}
	for i := range c.Isrs {
		c.Isrs[i].Resources, c.Isrs[i].Messages = slices.Clone(c.Isrs[i].Resources), slices.Clone(c.Isrs[i].Messages)
	}
	return c
}

func made(t *testing.T, c api.Config) *model.Model {
	t.Helper()
	m, e := model.New(c)
	if e != api.OK || m == nil {
		t.Fatalf("New: %v, %d; Check: %+v", m, e, class.Check(c))
	}
	return m
}

// The steps, by short names.
func start(mode int) api.Step { return api.Step{Kind: api.SStart, ID: mode} }
func irq(isr int) api.Step    { return api.Step{Kind: api.SIrq, ID: isr} }
func tick(counter int) api.Step {
	return api.Step{Kind: api.STick, ID: counter}
}
func ret() api.Step { return api.Step{Kind: api.SReturn} }

// call is a call with up to three parameters.
func call(service int, params ...uint32) api.Step {
	s := api.Step{Kind: api.SCall, Service: service}
	for i, p := range []*uint32{&s.A, &s.B, &s.C} {
		if i < len(params) {
			*p = params[i]
		}
	}
	return s
}

// The contexts.
var none api.Frame

func task(id int) api.Frame     { return api.Frame{Kind: api.FTask, ID: id} }
func isr(id int) api.Frame      { return api.Frame{Kind: api.FIsr, ID: id} }
func pre(id int) api.Frame      { return api.Frame{Kind: api.FPre, ID: id} }
func post(id int) api.Frame     { return api.Frame{Kind: api.FPost, ID: id} }
func callback(id int) api.Frame { return api.Frame{Kind: api.FCallback, ID: id} }
func failed(s api.Status, service int, param uint32) api.Frame {
	return api.Frame{Kind: api.FError, Status: s, Service: service, Param: param}
}

func isRoutine(k api.FrameKind) bool { return k >= api.FStartup }

// runs: behind a step this context runs, and these routines were begun.
func runs(t *testing.T, a api.Answer, run api.Frame, begun ...api.Frame) {
	t.Helper()
	if a.Idle || a.Run != run || !slices.Equal(a.Begun, begun) {
		t.Fatalf("%+v: not %+v with %+v", a, run, begun)
	}
}

// is: a step is answered by this status.
func is(t *testing.T, a api.Answer, want api.Status) {
	t.Helper()
	if a.Idle || a.Status != want {
		t.Fatalf("%+v: not %d", a, want)
	}
}

// tells: a step is answered EOK, with this value.
func tells(t *testing.T, a api.Answer, v ...uint32) {
	t.Helper()
	is(t, a, api.EOK)
	for i := range a.V {
		want := uint32(0)
		if i < len(v) {
			want = v[i]
		}
		if a.V[i] != want {
			t.Fatalf("%+v: not %v", a, v)
		}
	}
}

// idles: a step is idle, and this context runs.
func idles(t *testing.T, a api.Answer, run api.Frame) {
	t.Helper()
	if !a.Idle || a.Status != api.EOK || a.Run != run || a.V != [3]uint32{} || len(a.Begun)+len(a.Expired) > 0 {
		t.Fatalf("%+v: not idle, while %+v runs", a, run)
	}
}

func framesAre(t *testing.T, m *model.Model, want ...api.Frame) {
	t.Helper()
	if l := m.Look().Frames; !slices.Equal(l, want) {
		t.Fatalf("frames: %+v, not %+v", l, want)
	}
}

func gateIs(t *testing.T, m *model.Model, want api.Gate) {
	t.Helper()
	if l := m.Look(); (api.Gate{Shut: l.Shut, All: l.All, Os: l.Os}) != want {
		t.Fatalf("gate: %v %d %d, not %+v", l.Shut, l.All, l.Os, want)
	}
}

// top is the context that runs.
func top(l api.Look) api.Frame {
	if len(l.Frames) == 0 {
		return none
	}
	return l.Frames[len(l.Frames)-1]
}

// levelOf is that of the context that runs.
func levelOf(c api.Config, l api.Look) api.Level {
	f, category := top(l), 0
	if f.Kind == api.FIsr {
		category = c.Isrs[f.ID].Category
	}
	return level.Of(f.Kind, category)
}

func lists(l [][]int) [][]int {
	l = append([][]int(nil), l...)
	for i := range l {
		l[i] = append([]int(nil), l[i]...)
	}
	return l
}

// plain is a look in memory of its own, with nil for lists that are empty.
func plain(l api.Look) api.Look {
	l.Tasks, l.Frames = append([]api.TaskLook(nil), l.Tasks...), append([]api.Frame(nil), l.Frames...)
	for i := range l.Tasks {
		l.Tasks[i].Held = append([]int(nil), l.Tasks[i].Held...)
	}
	l.Requested, l.Preempted = append([]int(nil), l.Requested...), append([]int(nil), l.Preempted...)
	l.Held, l.Rings = lists(l.Held), lists(l.Rings)
	l.Counters, l.Alarms = append([]uint32(nil), l.Counters...), append([]api.AlarmLook(nil), l.Alarms...)
	return l
}

func plainAnswer(a api.Answer) api.Answer {
	a.Begun, a.Expired = append([]api.Frame(nil), a.Begun...), append([]int(nil), a.Expired...)
	return a
}
