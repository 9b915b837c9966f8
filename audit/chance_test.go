package audit_test

import (
	"math"
	"slices"
	"strconv"

	"tappet/api"
	"tappet/level"
)

// chance gives numbers that are the same in each run.
type chance uint64

func (c *chance) below(n int) int {
	*c = *c*6364136223846793005 + 1442695040888963407
	return int(uint64(*c>>33) % uint64(n))
}

func (c *chance) one(n int) bool { return c.below(n) == 0 }

func name(n int) string { return "n" + strconv.Itoa(n) }

// some are some of n numbers, rising, to which a function does not object.
func (c *chance) some(n int, fits func(n int) bool) []int {
	var l []int
	for i := range n {
		if !c.one(3) && fits(i) {
			l = append(l, i)
		}
	}
	return l
}

func anyOne(int) bool { return true }

func (c *chance) hooks() api.Os {
	switch c.below(4) {
	case 0:
		return api.Os{Name: "o", Schedule: c.one(2)}
	case 1:
		return api.Os{Name: "o", Error: true, Schedule: c.one(2)}
	}
	return api.Os{Name: "o", Startup: c.one(2), Error: c.one(2), Shutdown: c.one(2), PreTask: c.one(2), PostTask: c.one(2), Schedule: c.one(2)}
}

// config is one by chance, that may be: few priorities, short counters and queues, so that much happens.
func (c *chance) config() api.Config {
	x := api.Config{CPU: "c", OS: c.hooks()}
	for n := range 1 + c.below(3) {
		x.Modes = append(x.Modes, name(n))
	}
	for n := range c.below(6) {
		r := api.Resource{Name: name(n), Kind: api.ResStandard}
		switch {
		case n > 0 && c.one(3) && x.Resources[n-1].Kind != api.ResInternal:
			r.Kind, r.Link = api.ResLinked, n-1
		case c.one(4):
			r.Kind = api.ResInternal
		}
		x.Resources = append(x.Resources, r)
	}
	x.Events = []api.Event{{Name: "e", Mask: 1}, {Name: "f", Mask: 2}}
	for n := range 1 + c.below(6) {
		x.Tasks = append(x.Tasks, c.task(x, n))
	}
	for n := range c.below(3) {
		most := uint32(1 + c.below(6))
		x.Counters = append(x.Counters, api.Counter{Name: name(n), Max: most, Base: 1, Min: uint32(1 + c.below(int(most)))})
	}
	for n := range c.below(6) {
		if len(x.Counters) > 0 {
			x.Alarms = append(x.Alarms, c.alarm(x, n))
		}
	}
	c.isrs(&x)
	c.messages(&x)
	return x
}

func (c *chance) task(x api.Config, n int) api.Task {
	row := api.Task{Name: name(n), Priority: []int{0, 1, 2, 3, 63}[c.below(5)], Full: !c.one(3), Activation: 1 + c.below(3)}
	row.Auto = c.some(len(x.Modes), anyOne)
	room := 1
	row.Resources = c.some(len(x.Resources), func(r int) bool {
		if x.Resources[r].Kind == api.ResInternal {
			room--
		}
		return x.Resources[r].Kind != api.ResInternal || room == 0
	})
	if c.one(3) {
		row.Events, row.Activation = []int{0, 1}, 1
	}
	return row
}

// action starts a task twice out of three times.
func (c *chance) action(x api.Config) api.Action {
	n := c.below(len(x.Tasks))
	switch {
	case len(x.Tasks[n].Events) > 0 && !c.one(3):
		return api.Action{Kind: api.ActEvent, Task: n, Event: c.below(2)}
	case c.one(3):
		return api.Action{Kind: api.ActCallback, Name: "f"}
	}
	return starts(n)
}

func (c *chance) alarm(x api.Config, n int) api.Alarm {
	a := api.Alarm{Name: name(n), Counter: c.below(len(x.Counters)), Action: c.action(x)}
	row := x.Counters[a.Counter]
	if a.Auto = c.some(len(x.Modes), anyOne); len(a.Auto) > 0 {
		a.Time = uint32(1 + c.below(int(row.Max)))
		if !c.one(3) {
			a.Cycle = row.Min + uint32(c.below(int(row.Max-row.Min+1)))
		}
	}
	return a
}

func (c *chance) isrs(x *api.Config) {
	border := 64 + c.below(12)
	for p := 64; p < 72; p++ {
		if !c.one(3) {
			continue
		}
		row := api.Isr{Name: name(p), Category: 1, Priority: p}
		if p <= border {
			row.Category = 2
			row.Resources = c.some(len(x.Resources), func(r int) bool { return x.Resources[r].Kind != api.ResInternal })
		}
		x.Isrs = slices.Insert(x.Isrs, c.below(len(x.Isrs)+1), row)
	}
}

// messages: of one or two that are sent some are received, ahead of them and behind.
func (c *chance) messages(x *api.Config) {
	many := c.below(8)
	from := []int{c.below(max(many, 1)), c.below(max(many, 1))}
	for n := range many {
		m := api.Message{Name: name(n), Kind: api.MsgSend, Length: 1}
		if !slices.Contains(from, n) {
			m = api.Message{Name: name(n), Kind: api.MsgUnqueued, From: from[c.below(2)]}
			if !c.one(4) {
				m.Action = c.action(*x)
			}
			if !c.one(3) {
				m.Kind, m.Queue = api.MsgQueued, 1+c.below(3)
			}
		}
		x.Messages = append(x.Messages, m)
	}
}

// top is the context that runs.
func top(l api.Look) api.Frame {
	if len(l.Frames) == 0 {
		return none
	}
	return l.Frames[len(l.Frames)-1]
}

// step is one by chance; those that get on are likelier than such as are idle or refused.
func (c *chance) step(x api.Config, l api.Look) api.Step {
	f := top(l)
	switch k := c.below(100); {
	case l.Phase == api.Off && !c.one(10):
		return start(c.below(len(x.Modes)+1) - c.below(2))
	case k < 12:
		return tick(c.below(len(x.Counters)+2) - 1)
	case k < 22:
		return irq(c.below(len(x.Isrs)+2) - 1)
	case k < 25 || f.Kind >= api.FStartup && k < 60 || f.Kind == api.FIsr && k < 40:
		return ret()
	case k < 27:
		return api.Step{Kind: api.StepKind(c.below(9) - 1), ID: c.below(3), Service: c.below(50), A: uint32(c.below(4))}
	}
	if (l.Shut || l.All+l.Os > 0) && c.one(2) {
		return call([]int{api.SvEnableAllInterrupts, api.SvResumeAllInterrupts, api.SvResumeOSInterrupts}[c.below(3)])
	}
	category := 0
	if f.Kind == api.FIsr {
		category = x.Isrs[f.ID].Category
	}
	all := level.Services()
	service := all[c.below(len(all))]
	for range 5 {
		if level.May(service, level.Of(f.Kind, category)) && (service != api.SvShutdownOS || c.one(20)) {
			break
		}
		service = all[c.below(len(all))]
	}
	return c.params(x, l, service)
}

// params are parameters such as the service may have.
func (c *chance) params(x api.Config, l api.Look, service int) api.Step {
	n := 8
	switch {
	case slices.Contains([]int{4, 6, 9, 18, 20}, service):
		n = len(x.Tasks)
	case service == 16 || service == 17:
		n = len(x.Resources) + 1
	case service >= 22 && service <= 26:
		n = len(x.Alarms)
	case service >= 40:
		n = len(x.Messages)
	}
	if c.one(40) {
		return call(service, math.MaxUint32-uint32(c.below(2)), uint32(c.below(9)), uint32(c.below(5)))
	}
	if held := heldBy(l, top(l)); service == 17 && len(held) > 0 && !c.one(4) {
		return call(service, uint32(held[len(held)-1]))
	}
	if service >= 40 {
		return call(service, uint32(c.below(n+1)), uint32(c.below(8)))
	}
	return call(service, uint32(c.below(n+1)), uint32(c.below(8)), uint32(c.below(5)))
}

// heldBy is what a context holds.
func heldBy(l api.Look, f api.Frame) []int {
	switch f.Kind {
	case api.FTask:
		return l.Tasks[f.ID].Held
	case api.FIsr:
		return l.Held[f.ID]
	}
	return nil
}
