package trace_test

import (
	"math"
	"slices"
	"strconv"

	"tappet/api"
	"tappet/level"
)

// chance gives numbers that are the same in each run.
type chance uint64

func (c *chance) below(n int) int {
	*c = *c*6364136223846793005 + 1442695040888963407
	return int(uint64(*c>>33) % uint64(n))
}

func (c *chance) one(n int) bool { return c.below(n) == 0 }

// upTo is a number up to a greatest one, the edges and small ones likelier than others.
func (c *chance) upTo(most int) int {
	switch c.below(4) {
	case 0:
		return 0
	case 1:
		return most
	case 2:
		return min(1<<c.below(32)-c.below(2), most)
	}
	return c.below(most + 1)
}

func (c *chance) word() uint32 { return uint32(c.upTo(math.MaxUint32)) }

func (c *chance) frame() api.Frame {
	if c.one(3) {
		return task(c.below(3))
	}
	return api.Frame{Kind: api.FrameKind(c.upTo(255)), ID: c.upTo(65535), Status: api.Status(c.upTo(math.MaxUint32)), Service: c.upTo(65535), Param: c.word()}
}

// trace is one by chance that can be written; what its steps do is not told by its answers.
func (c *chance) trace(most int) api.Trace {
	r := api.Trace{Sum: uint16(c.upTo(65535))}
	for range c.below(most + 1) {
		s := api.Step{Kind: api.StepKind(c.upTo(255)), ID: c.upTo(65535), Service: c.upTo(65535), A: c.word(), B: c.word(), C: c.word()}
		a := api.Answer{Status: api.Status(c.upTo(255)), Idle: c.one(2), V: [3]uint32{c.word(), c.word(), c.word()}, Run: c.frame()}
		for range c.below(3) {
			a.Begun = append(a.Begun, c.frame())
		}
		for range c.below(4) {
			a.Expired = append(a.Expired, c.upTo(255))
		}
		r.Entries = append(r.Entries, api.Traced{Step: s, Answer: a})
	}
	return r
}

func name(n int) string { return "n" + strconv.Itoa(n) }

// some are some of n numbers, rising.
func (c *chance) some(n int) []int {
	var l []int
	for i := range n {
		if !c.one(3) {
			l = append(l, i)
		}
	}
	return l
}

// config is one by chance, that may be: few priorities and short counters, so that much happens.
func (c *chance) config() api.Config {
	x := api.Config{CPU: "c", OS: api.Os{Name: "o", Startup: c.one(2), Error: !c.one(3), Shutdown: c.one(2), PreTask: c.one(2), PostTask: c.one(2), Schedule: c.one(2)}}
	for n := range 1 + c.below(2) {
		x.Modes = append(x.Modes, name(n))
	}
	for n := range c.below(4) {
		x.Resources = append(x.Resources, api.Resource{Name: name(n), Kind: api.ResStandard})
	}
	x.Events = []api.Event{{Name: "e", Mask: 1}, {Name: "f", Mask: 2}}
	for n := range 1 + c.below(5) {
		row := api.Task{Name: name(n), Priority: []int{0, 1, 2, 3, 63}[c.below(5)], Full: !c.one(3), Activation: 1, Auto: c.some(len(x.Modes)), Resources: c.some(len(x.Resources))}
		if c.one(3) {
			row.Events = []int{0, 1}
		} else {
			row.Activation += c.below(3)
		}
		x.Tasks = append(x.Tasks, row)
	}
	for n := range 1 + c.below(2) {
		x.Counters = append(x.Counters, api.Counter{Name: name(n), Max: uint32(1 + c.below(4)), Base: uint32(1 + c.below(9)), Min: 1})
	}
	for n := range c.below(6) {
		x.Alarms = append(x.Alarms, c.alarm(x, n))
	}
	for n := range c.below(4) {
		row := api.Isr{Name: name(n), Category: 2, Priority: 64 + n, Resources: c.some(len(x.Resources))}
		if n == 2 {
			row.Category, row.Resources = 1, nil
			x.Isrs = append(x.Isrs, row)
			break
		}
		x.Isrs = append(x.Isrs, row)
	}
	return x
}

func (c *chance) alarm(x api.Config, n int) api.Alarm {
	a := api.Alarm{Name: name(n), Counter: c.below(len(x.Counters)), Action: api.Action{Kind: api.ActTask, Task: c.below(len(x.Tasks))}}
	if len(x.Tasks[a.Action.Task].Events) > 0 && !c.one(3) {
		a.Action.Kind, a.Action.Event = api.ActEvent, c.below(2)
	}
	if c.one(3) {
		a.Action = api.Action{Kind: api.ActCallback, Name: "f"}
	}
	if a.Auto = c.some(len(x.Modes)); len(a.Auto) > 0 {
		most := x.Counters[a.Counter].Max
		a.Time, a.Cycle = 1+uint32(c.below(int(most))), uint32(c.below(int(most)+1))
	}
	return a
}

// top is the context that runs.
func top(l api.Look) api.Frame {
	if len(l.Frames) == 0 {
		return none
	}
	return l.Frames[len(l.Frames)-1]
}

// step is one by chance; those that get on are likelier than such as are idle or refused.
func (c *chance) step(x api.Config, l api.Look) api.Step {
	f := top(l)
	switch k := c.below(100); {
	case l.Phase == api.Off:
		return start(c.below(len(x.Modes)+1) - c.below(2))
	case k < 15:
		return tick(c.below(len(x.Counters)+2) - 1)
	case k < 25:
		return irq(c.below(len(x.Isrs)+2) - 1)
	case k < 28 || f.Kind >= api.FStartup && k < 60 || f.Kind == api.FIsr && k < 40:
		return ret()
	case k < 30:
		return api.Step{Kind: api.StepKind(c.below(9) - 1), ID: c.below(3), Service: c.below(30)}
	}
	category := 0
	if f.Kind == api.FIsr {
		category = x.Isrs[f.ID].Category
	}
	service := 1 + c.below(26)
	for range 5 {
		if level.May(service, level.Of(f.Kind, category)) && (service != api.SvShutdownOS || c.one(20)) {
			break
		}
		service = c.below(48)
	}
	return call(service, uint32(c.below(6)), uint32(c.below(5)), uint32(c.below(4)))
}

// ordinary is a configuration with all that may be: all hooks, two modes, tasks of all kinds, resources, events, alarms with each action, ISRs of both categories, a message.
func ordinary() api.Config {
	return api.Config{
		CPU:   "c",
		OS:    api.Os{Name: "o", Startup: true, Error: true, Shutdown: true, PreTask: true, PostTask: true, Service: true, Params: true, Schedule: true},
		Modes: []string{"m", "n"},
		Tasks: []api.Task{
			{Name: "a", Priority: 1, Full: true, Activation: 2, Auto: []int{0}, Resources: []int{0, 2}},
			{Name: "b", Priority: 3, Full: true, Activation: 1, Resources: []int{0, 1}, Events: []int{0, 1}},
			{Name: "c", Priority: 2, Activation: 1, Messages: []int{0}},
			{Name: "d", Priority: 2, Full: true, Activation: 2, Auto: []int{0, 1}, Resources: []int{1}},
		},
		Resources: []api.Resource{{Name: "r", Kind: api.ResStandard}, {Name: "s", Kind: api.ResInternal}, {Name: "t", Kind: api.ResStandard}},
		Events:    []api.Event{{Name: "x", Mask: 1}, {Name: "y", Mask: 2}},
		Counters:  []api.Counter{{Name: "k", Max: 9, Base: 4, Min: 2}, {Name: "l", Max: 3, Base: 1, Min: 1}},
		Alarms: []api.Alarm{
			{Name: "a", Action: api.Action{Kind: api.ActTask, Task: 2}, Auto: []int{0}, Time: 3, Cycle: 3},
			{Name: "b", Action: api.Action{Kind: api.ActEvent, Task: 1, Event: 1}},
			{Name: "c", Action: api.Action{Kind: api.ActCallback, Name: "f"}, Auto: []int{0, 1}, Time: 3, Cycle: 3},
			{Name: "d", Counter: 1, Action: api.Action{Kind: api.ActCallback, Name: "g"}},
		},
		Isrs:     []api.Isr{{Name: "i", Category: 2, Priority: 70, Resources: []int{2}}, {Name: "k", Category: 1, Priority: 90}},
		Messages: []api.Message{{Name: "m", Kind: api.MsgSend, Length: 1}, {Name: "n", Kind: api.MsgUnqueued, Action: api.Action{Kind: api.ActCallback, Name: "h"}}},
	}
}

// busy are steps over ordinary, with hooks, callbacks, errors, two alarms that expire at once, an ISR, idle ones, a shutdown.
func busy() []api.Step {
	return slices.Concat(
		[]api.Step{start(2), ret(), start(0), start(0), ret(), ret(), call(api.SvGetTaskID), call(99, 7), ret(), tick(0), tick(0), tick(0), ret(), irq(0)},
		[]api.Step{call(api.SvGetAlarmBase, 0), call(api.SvSetEvent, 1, 1), ret(), ret(), irq(1), ret(), call(api.SvGetTaskState, 3), {Kind: 77, ID: 5}, tick(9)},
		[]api.Step{call(api.SvShutdownOS, math.MaxUint32), call(api.SvGetActiveApplicationMode), ret(), ret(), tick(0)},
	)
}
