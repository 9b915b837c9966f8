package kernel_test

import (
	"math"
	"slices"
	"testing"

	"tappet/api"
	"tappet/image"
	"tappet/kernel"
	"tappet/level"
	"tappet/table"
)

// beyond are numbers of nothing, where there are at most 256 of a kind.
var beyond = []int{-1, -2, -8, -64, 256, 257, 1 << 16, 1 << 32, 1<<32 + 1, math.MaxInt, math.MinInt}

// fitted gives tables the rings of their tasks, and the room that their rows need; a task without a Limit has 1, an alarm without an action activates the task 0.
func fitted(x api.Tables) api.Tables {
	x.Modes, x.Rings = max(x.Modes, 1), nil
	for p := api.MaxPriority; p >= 0; p-- {
		ring := api.RingRow{Priority: p}
		for i := range x.Tasks {
			if row := &x.Tasks[i]; row.Priority == p {
				row.Ring, row.Limit = len(x.Rings), max(row.Limit, 1)
				ring.Capacity += row.Limit
			}
		}
		if ring.Capacity > 0 {
			x.Rings = append(x.Rings, ring)
		}
	}
	x.Depth, x.Frames, x.Errors, x.Callbacks = len(x.Rings), len(x.Isrs)+4, 2, 0
	alarms, received := make([]int, len(x.Counters)), make([]int, len(x.Messages))
	for i := range x.Alarms {
		a := &x.Alarms[i]
		if a.Action.Kind == api.ActNone {
			a.Action.Kind = api.ActTask
		}
		alarms[a.Counter]++
		x.Errors = max(x.Errors, alarms[a.Counter])
		x.Callbacks += calls(a.Action)
	}
	for _, m := range x.Messages {
		if m.Kind != api.MsgSend {
			received[m.From]++
			x.Errors = max(x.Errors, received[m.From])
			x.Callbacks += calls(m.Action)
		}
	}
	return x
}

func calls(a api.ActionRow) int {
	if a.Kind == api.ActCallback {
		return 1
	}
	return 0
}

// configuration is that of chapter 23's examples.
func configuration() api.Config {
	return api.Config{
		CPU:   "c",
		OS:    api.Os{Name: "o", Error: true},
		Modes: []string{"m"},
		Tasks: []api.Task{{Name: "low", Priority: 1, Full: true, Activation: 1, Auto: []int{0}}, {Name: "high", Priority: 2, Full: true, Activation: 1}},
	}
}

// ordinary are tables with all that may be: all hooks, two modes; tasks 0 (low, starts by itself in the mode 0), 1 (extended), 2 (not full), 3 (with an internal resource of ceiling 4, in both modes), 4 (the greatest, extended), 5 (started twice, the priority of 0); resources 0 (of 0 and 1), 1 (internal), 2 (of the task 0 and the ISR 0), 3 (of the ISRs 0 and 1), 4 (RES_SCHEDULER); two counters; alarms 0 (activates 2), 1 (sets an event of 1), 2 (a callback), 3 (on the other counter, activates 5), 4 (a callback there); ISRs 0 and 1 of category 2, 2 of category 1.
func ordinary() api.Tables {
	return fitted(api.Tables{
		Uses:  255,
		Modes: 2,
		Tasks: []api.TaskRow{
			{Priority: 1, Full: true, Limit: 2, Internal: -1, Own: []int{0, 2, 4}, Auto: 1},
			{Priority: 3, Full: true, Mask: 3, Internal: -1, Own: []int{0, 4}},
			{Priority: 2, Limit: 1, Internal: -1, Own: []int{4}},
			{Priority: 2, Full: true, Limit: 2, Internal: 4, Own: []int{4}, Auto: 3},
			{Priority: 5, Full: true, Mask: 4, Internal: -1, Own: []int{4}},
			{Priority: 1, Full: true, Limit: 2, Internal: -1, Own: []int{4}, Auto: 2},
		},
		Resources: []api.ResourceRow{{Ceiling: 3}, {Internal: true, Ceiling: 4}, {Ceiling: 70}, {Ceiling: 80}, {Ceiling: 5}},
		Counters:  []api.CounterRow{{Max: 9, Base: 4, Min: 2}, {Max: 3, Base: 1, Min: 1}},
		Alarms: []api.AlarmRow{
			{Action: api.ActionRow{Kind: api.ActTask, Task: 2}, Auto: 1, Time: 3, Cycle: 3},
			{Action: api.ActionRow{Kind: api.ActEvent, Task: 1, Mask: 2}},
			{Action: api.ActionRow{Kind: api.ActCallback}, Auto: 3, Time: 9},
			{Counter: 1, Action: api.ActionRow{Kind: api.ActTask, Task: 5}},
			{Counter: 1, Action: api.ActionRow{Kind: api.ActCallback}},
		},
		Isrs:     []api.IsrRow{{Category: 2, Priority: 70, Own: []int{2, 3}}, {Category: 2, Priority: 80, Own: []int{3}}, {Category: 1, Priority: 90}},
		Messages: []api.MessageRow{{Kind: api.MsgSend, Length: 1}, {Kind: api.MsgUnqueued, Action: api.ActionRow{Kind: api.ActCallback}}, {Kind: api.MsgQueued, Queue: 2, Action: api.ActionRow{Kind: api.ActEvent, Task: 4, Mask: 4}}},
	})
}

// bare are the same tables without hooks.
func bare() api.Tables {
	x := ordinary()
	x.Uses = api.UseSchedule
	return x
}

// with are the same tables with these hooks alone.
func with(uses int) api.Tables {
	x := ordinary()
	x.Uses = uses
	return x
}

// copied are the same tables in memory of their own.
func copied(x api.Tables) api.Tables {
	x.Tasks, x.Rings, x.Resources, x.Isrs = slices.Clone(x.Tasks), slices.Clone(x.Rings), slices.Clone(x.Resources), slices.Clone(x.Isrs)
	x.Counters, x.Alarms, x.Messages = slices.Clone(x.Counters), slices.Clone(x.Alarms), slices.Clone(x.Messages)
	for i := range x.Tasks {
		x.Tasks[i].Own = slices.Clone(x.Tasks[i].Own)
	}
	for i := range x.Isrs {
		x.Isrs[i].Own = slices.Clone(x.Isrs[i].Own)
	}
	return x
}

func made(t *testing.T, x api.Tables) *kernel.Kernel {
	t.Helper()
	k, e := kernel.New(x)
	if e != api.OK || k == nil {
		t.Fatalf("New: %v, %d; Check: %d", k, e, table.Check(x))
	}
	return k
}

func encoded(t *testing.T, x api.Tables) []byte {
	t.Helper()
	b, e := image.Encode(x)
	if e != api.OK {
		t.Fatal("Encode:", e)
	}
	return b
}

func booted(t *testing.T, x api.Tables) *kernel.Kernel {
	t.Helper()
	k, e := kernel.Boot(encoded(t, x))
	if e != api.OK || k == nil {
		t.Fatal("Boot:", k, e)
	}
	return k
}

// The steps, by short names.
func start(mode int) api.Step { return api.Step{Kind: api.SStart, ID: mode} }
func irq(isr int) api.Step    { return api.Step{Kind: api.SIrq, ID: isr} }
func tick(counter int) api.Step {
	return api.Step{Kind: api.STick, ID: counter}
}
func ret() api.Step { return api.Step{Kind: api.SReturn} }

// call is a call with up to three parameters.
func call(service int, params ...uint32) api.Step {
	s := api.Step{Kind: api.SCall, Service: service}
	for i, p := range []*uint32{&s.A, &s.B, &s.C} {
		if i < len(params) {
			*p = params[i]
		}
	}
	return s
}

// The contexts.
var none api.Frame

func task(id int) api.Frame     { return api.Frame{Kind: api.FTask, ID: id} }
func isr(id int) api.Frame      { return api.Frame{Kind: api.FIsr, ID: id} }
func pre(id int) api.Frame      { return api.Frame{Kind: api.FPre, ID: id} }
func post(id int) api.Frame     { return api.Frame{Kind: api.FPost, ID: id} }
func callback(id int) api.Frame { return api.Frame{Kind: api.FCallback, ID: id} }
func failed(s api.Status, service int, param uint32) api.Frame {
	return api.Frame{Kind: api.FError, Status: s, Service: service, Param: param}
}

// runs: behind a step this context runs, and these routines were begun.
func runs(t *testing.T, a api.Answer, run api.Frame, begun ...api.Frame) {
	t.Helper()
	if a.Idle || a.Run != run || !slices.Equal(a.Begun, begun) {
		t.Fatalf("%+v: not %+v with %+v", a, run, begun)
	}
}

// is: a step is answered by this status.
func is(t *testing.T, a api.Answer, want api.Status) {
	t.Helper()
	if a.Idle || a.Status != want {
		t.Fatalf("%+v: not %d", a, want)
	}
}

// tells: a step is answered EOK, with this value.
func tells(t *testing.T, a api.Answer, v ...uint32) {
	t.Helper()
	is(t, a, api.EOK)
	for i := range a.V {
		want := uint32(0)
		if i < len(v) {
			want = v[i]
		}
		if a.V[i] != want {
			t.Fatalf("%+v: not %v", a, v)
		}
	}
}

// idles: a step is idle, and this context runs.
func idles(t *testing.T, a api.Answer, run api.Frame) {
	t.Helper()
	if !a.Idle || a.Status != api.EOK || a.Run != run || a.V != [3]uint32{} || len(a.Begun)+len(a.Expired) > 0 {
		t.Fatalf("%+v: not idle, while %+v runs", a, run)
	}
}

func framesAre(t *testing.T, k *kernel.Kernel, want ...api.Frame) {
	t.Helper()
	if l := k.Look().Frames; !slices.Equal(l, want) {
		t.Fatalf("frames: %+v, not %+v", l, want)
	}
}

func gateIs(t *testing.T, k *kernel.Kernel, want api.Gate) {
	t.Helper()
	if l := k.Look(); (api.Gate{Shut: l.Shut, All: l.All, Os: l.Os}) != want {
		t.Fatalf("gate: %v %d %d, not %+v", l.Shut, l.All, l.Os, want)
	}
}

// chance gives numbers that are the same in each run.
type chance uint64

func (c *chance) below(n int) int {
	*c = *c*6364136223846793005 + 1442695040888963407
	return int(uint64(*c>>33) % uint64(n))
}

func (c *chance) one(n int) bool { return c.below(n) == 0 }

// own are resources that one of a priority may have.
func (c *chance) own(rows []api.ResourceRow, priority int) []int {
	var l []int
	for id, r := range rows {
		if !r.Internal && r.Ceiling >= priority && !c.one(3) {
			l = append(l, id)
		}
	}
	return l
}

// tables are made by chance; their ceilings are the least that may be, or above.
func (c *chance) tables() api.Tables {
	x := api.Tables{Uses: c.below(256), Modes: 1 + c.below(3)}
	if c.one(3) {
		x.Uses = []int{0, api.UseError, api.UseError, 127}[c.below(4)]
	}
	for range c.below(5) {
		x.Resources = append(x.Resources, api.ResourceRow{Internal: c.one(5), Ceiling: []int{-1, 0, 2, 3, 63, 66, 100}[c.below(7)]})
	}
	for range 1 + c.below(6) {
		x.Tasks = append(x.Tasks, c.task(x))
	}
	for range c.below(3) {
		most := uint32(1 + c.below(6))
		x.Counters = append(x.Counters, api.CounterRow{Max: most, Base: uint32(1 + c.below(9)), Min: uint32(1 + c.below(int(most)))})
	}
	for range c.below(7) {
		if len(x.Counters) > 0 {
			x.Alarms = append(x.Alarms, c.alarm(x))
		}
	}
	border := 64 + c.below(12)
	for p := 64; p < 72; p++ {
		if c.one(3) {
			row := api.IsrRow{Category: 2, Priority: p, Own: c.own(x.Resources, p)}
			if p > border {
				row = api.IsrRow{Category: 1, Priority: p}
			}
			x.Isrs = slices.Insert(x.Isrs, c.below(len(x.Isrs)+1), row)
		}
	}
	if c.one(3) {
		x.Messages = []api.MessageRow{{Kind: api.MsgSend, Length: 1}}
		for range c.below(4) {
			x.Messages = append(x.Messages, api.MessageRow{Kind: api.MsgUnqueued, Action: c.action(x)})
		}
	}
	return fitted(x)
}

func (c *chance) task(x api.Tables) api.TaskRow {
	row := api.TaskRow{Priority: []int{0, 1, 2, 3, 63}[c.below(5)], Full: !c.one(3), Internal: -1, Auto: uint32(c.below(1 << x.Modes))}
	if c.one(3) {
		row.Mask = uint32(1 + c.below(7))
	} else {
		row.Limit = 1 + c.below(3)
	}
	if c.one(3) {
		row.Internal = row.Priority + []int{0, 1, 2, 64}[c.below(4)]
	}
	row.Own = c.own(x.Resources, row.Priority)
	return row
}

func (c *chance) action(x api.Tables) api.ActionRow {
	n := c.below(len(x.Tasks))
	switch mask := x.Tasks[n].Mask; {
	case c.one(3):
		return api.ActionRow{Kind: api.ActCallback}
	case mask != 0 && !c.one(3):
		return api.ActionRow{Kind: api.ActEvent, Task: n, Mask: mask}
	default:
		return api.ActionRow{Kind: api.ActTask, Task: n}
	}
}

func (c *chance) alarm(x api.Tables) api.AlarmRow {
	a := api.AlarmRow{Counter: c.below(len(x.Counters)), Action: c.action(x)}
	row := x.Counters[a.Counter]
	if a.Auto = uint32(c.below(1 << x.Modes)); a.Auto != 0 {
		a.Time = uint32(1 + c.below(int(row.Max)))
		if !c.one(3) {
			a.Cycle = row.Min + uint32(c.below(int(row.Max-row.Min+1)))
		}
	}
	return a
}

// step is one by chance; those that get on are likelier than such as are idle or refused.
func (c *chance) step(b *book) api.Step {
	if b.phase == api.Off {
		return start(c.below(b.x.Modes+1) - c.below(2))
	}
	top := b.top()
	switch k := c.below(100); {
	case k < 12:
		return tick(c.below(len(b.x.Counters)+2) - 1)
	case k < 22:
		return irq(c.below(len(b.x.Isrs)+2) - 1)
	case k < 25 || isRoutine(top.Kind) && k < 60 || top.Kind == api.FIsr && k < 40:
		return ret()
	case k < 26:
		return api.Step{Kind: api.StepKind(c.below(9) - 1), ID: c.below(3), Service: c.below(30)}
	}
	service := 1 + c.below(26)
	for range 5 {
		if level.May(service, b.level()) && (service != api.SvShutdownOS || c.one(20)) {
			break
		}
		service = c.below(29)
	}
	return c.params(b, service)
}

// params are parameters such as the service may have.
func (c *chance) params(b *book, service int) api.Step {
	n := []int{len(b.x.Tasks), len(b.x.Resources), len(b.x.Alarms), 8}[c.below(4)]
	switch service {
	case 4, 6, 9, 18, 20:
		n = len(b.x.Tasks)
	case 16, 17:
		n = len(b.x.Resources)
	case 22, 23, 24, 25, 26:
		n = len(b.x.Alarms)
	}
	if c.one(40) {
		return call(service, math.MaxUint32-uint32(c.below(2)), uint32(c.below(9)), uint32(c.below(5)))
	}
	if held, _, _ := b.holder(); service == 17 && len(held) > 0 && !c.one(4) {
		return call(service, uint32(held[len(held)-1]))
	}
	return call(service, uint32(c.below(n+1)), uint32(c.below(8)), uint32(c.below(5)))
}

// holder is what the context that runs holds; nothing, if it is a routine.
func (b *book) holder() ([]int, int, []int) {
	if k := b.top().Kind; k != api.FTask && k != api.FIsr {
		return nil, 0, nil
	}
	held, base, own := b.me()
	return *held, base, own
}

// effect is one by chance: deeds that a message could bring, and others.
func (c *chance) effect(b *book) api.Effect {
	x := api.Effect{Status: api.Status(c.below(3) * 17), Service: 40 + c.below(6), Param: uint32(c.below(4))}
	for range c.below(5) {
		d := api.Deed{Action: c.action(b.x), Callback: c.below(8)}
		if c.one(4) {
			d.Action = api.ActionRow{Kind: api.ActionKind(c.below(7) - 1), Task: c.below(len(b.x.Tasks)+2) - 1, Mask: uint32(c.below(9))}
		}
		x.Deeds = append(x.Deeds, d)
	}
	return x
}
