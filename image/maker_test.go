package image_test

import (
	"math"
	"reflect"
	"slices"
	"testing"

	"tappet/api"
	"tappet/table"
)

// small are the tables of the chapter's first example.
func small() api.Tables {
	return api.Tables{
		Modes: 1,
		Tasks: []api.TaskRow{{Priority: 1, Full: true, Limit: 1, Internal: -1}},
		Rings: []api.RingRow{{Priority: 1, Capacity: 1}},
		Depth: 1, Frames: 4, Errors: 2,
	}
}

// whole are ordinary tables with every kind of row and every kind of action.
func whole() api.Tables {
	return api.Tables{
		Uses: 131, Modes: 3,
		Rings: []api.RingRow{{Priority: 62, Capacity: 1}, {Priority: 7, Capacity: 4}, {Priority: 0, Capacity: 255}},
		Resources: []api.ResourceRow{
			{Ceiling: 80}, {Ceiling: 80}, {Internal: true, Ceiling: 0}, {Ceiling: 80}, {Internal: true, Ceiling: 62}, {Ceiling: -1}, {Ceiling: 62},
		},
		Tasks: []api.TaskRow{
			{Priority: 0, Ring: 2, Full: true, Limit: 255, Internal: 0, Own: []int{0, 1, 3, 6}, Auto: 5},
			{Priority: 62, Ring: 0, Limit: 1, Mask: 1<<31 + 7, Internal: 62, Own: []int{1, 6}, Auto: 2},
			{Priority: 7, Ring: 1, Limit: 1, Mask: 5, Internal: -1},
			{Priority: 7, Ring: 1, Full: true, Limit: 3, Internal: -1, Own: []int{6}},
		},
		Counters: []api.CounterRow{{Max: 1, Base: 1, Min: 1}, {Max: 2147483647, Base: 2147483646, Min: 9}},
		Alarms: []api.AlarmRow{
			{Counter: 0, Action: api.ActionRow{Kind: api.ActTask, Task: 3}, Auto: 7, Time: 1, Cycle: 1},
			{Counter: 1, Action: api.ActionRow{Kind: api.ActEvent, Task: 2, Mask: 4}},
			{Counter: 1, Action: api.ActionRow{Kind: api.ActCallback}, Auto: 4, Time: 8},
			{Counter: 1, Action: api.ActionRow{Kind: api.ActTask}, Auto: 1, Time: 2147483647, Cycle: 9},
		},
		Isrs: []api.IsrRow{
			{Category: 2, Priority: 65, Own: []int{0, 3}}, {Category: 1, Priority: 126}, {Category: 2, Priority: 80, Own: []int{1}}, {Category: 1, Priority: 83},
		},
		Messages: []api.MessageRow{
			{Kind: api.MsgUnqueued, From: 4, Init: 4294967295, Action: api.ActionRow{Kind: api.ActFlag}},
			{Kind: api.MsgSend, Length: 1},
			{Kind: api.MsgQueued, From: 1, Queue: 16, Action: api.ActionRow{Kind: api.ActEvent, Task: 1, Mask: 1 << 31}},
			{Kind: api.MsgUnqueued, From: 1, Init: 255, Action: api.ActionRow{Kind: api.ActTask, Task: 3}},
			{Kind: api.MsgSend, Length: 8},
			{Kind: api.MsgQueued, From: 4, Queue: 1, Action: api.ActionRow{Kind: api.ActCallback}},
			{Kind: api.MsgUnqueued, From: 1},
		},
		Depth: 3, Frames: 8, Errors: 3, Callbacks: 2,
	}
}

// greatest are tables with as many rows of each kind as may be, and the greatest numbers that may be.
func greatest() api.Tables {
	x := api.Tables{Uses: 255, Modes: 8}
	var all []int
	for id := range 65 {
		x.Resources = append(x.Resources, api.ResourceRow{Ceiling: 127})
		all = append(all, id)
	}
	for i := range 64 {
		x.Rings = append(x.Rings, api.RingRow{Priority: 63 - i})
	}
	for id := range 256 {
		x.Tasks = append(x.Tasks, api.TaskRow{Priority: id / 4, Ring: 63 - id/4, Full: true, Limit: 255, Internal: 127, Own: slices.Clone(all), Auto: 255})
	}
	x.Tasks[255].Limit, x.Tasks[255].Mask = 1, math.MaxUint32
	for range 16 {
		x.Counters = append(x.Counters, api.CounterRow{Max: api.MaxTick, Base: api.MaxTick, Min: api.MaxTick})
	}
	for range 64 {
		x.Alarms = append(x.Alarms, api.AlarmRow{Counter: 15, Action: api.ActionRow{Kind: api.ActCallback}, Auto: 255, Time: api.MaxTick, Cycle: api.MaxTick})
	}
	for i := range 32 {
		x.Isrs = append(x.Isrs, api.IsrRow{Category: 2, Priority: 127 - i, Own: slices.Clone(all)})
	}
	for range 63 {
		x.Messages = append(x.Messages, api.MessageRow{Kind: api.MsgUnqueued, From: 63, Init: math.MaxUint32, Action: api.ActionRow{Kind: api.ActCallback}})
	}
	x.Messages[62] = api.MessageRow{Kind: api.MsgQueued, From: 63, Queue: 16, Action: api.ActionRow{Kind: api.ActEvent, Task: 255, Mask: math.MaxUint32}}
	x.Messages = append(x.Messages, api.MessageRow{Kind: api.MsgSend, Length: 8})
	mend(&x)
	return x
}

// crowded are tables with the greatest ring that may be.
func crowded() api.Tables {
	x := small()
	x.Tasks = nil
	for range 256 {
		x.Tasks = append(x.Tasks, api.TaskRow{Priority: 1, Limit: 255, Internal: -1})
	}
	mend(&x)
	return x
}

// mend makes the numbers that follow from other rows right again: Capacities, Depth, Frames, Errors, Callbacks.
func mend(x *api.Tables) {
	for i := range x.Rings {
		x.Rings[i].Capacity = 0
		for _, r := range x.Tasks {
			if r.Priority == x.Rings[i].Priority {
				x.Rings[i].Capacity += r.Limit
			}
		}
	}
	x.Depth, x.Frames, x.Errors, x.Callbacks = len(x.Rings), len(x.Isrs)+4, 2, 0
	alarms, messages := map[int]int{}, map[int]int{}
	for _, r := range x.Alarms {
		alarms[r.Counter]++
		x.Errors = max(x.Errors, alarms[r.Counter])
		if r.Action.Kind == api.ActCallback {
			x.Callbacks++
		}
	}
	for _, r := range x.Messages {
		if r.Kind != api.MsgSend {
			messages[r.From]++
			x.Errors = max(x.Errors, messages[r.From])
		}
		if r.Action.Kind == api.ActCallback {
			x.Callbacks++
		}
	}
}

// maker makes tables by chance.
type maker struct{ chance }

func (m *maker) yes() bool { return m.below(2) == 0 }

func (m *maker) number(least, most int) int {
	return pick(&m.chance, least, most, least+m.below(most-least+1))
}

// tables makes tables that may be.
func (m *maker) tables() api.Tables {
	x := api.Tables{Uses: m.number(0, 255), Modes: m.number(1, 8)}
	for range m.below(pick(&m.chance, 1, 4, 9)) {
		x.Resources = append(x.Resources, api.ResourceRow{Internal: m.below(3) == 0, Ceiling: m.number(-1, 127)})
	}
	m.tasks(&x)
	m.alarms(&x)
	m.isrs(&x)
	m.messages(&x)
	mend(&x)
	return x
}

// own are some of the resources that one of a priority may take.
func (m *maker) own(x *api.Tables, priority int) []int {
	var l []int
	for id, r := range x.Resources {
		if !r.Internal && r.Ceiling >= priority && m.yes() {
			l = append(l, id)
		}
	}
	return l
}

func (m *maker) tasks(x *api.Tables) {
	top := pick(&m.chance, 1, 3, 63)
	for range 1 + m.below(6) {
		r := api.TaskRow{Priority: m.number(0, top), Full: m.yes(), Limit: m.number(1, 255), Internal: -1, Auto: uint32(m.number(0, 1<<x.Modes-1))}
		if m.yes() {
			r.Internal = m.number(r.Priority, 127)
		}
		if m.yes() {
			r.Limit, r.Mask = 1, pick(&m.chance, math.MaxUint32, 1<<m.below(32), uint32(m.number(0, math.MaxUint32)))
		}
		r.Own = m.own(x, r.Priority)
		x.Tasks = append(x.Tasks, r)
	}
	for p := 63; p >= 0; p-- {
		based := slices.IndexFunc(x.Tasks, func(r api.TaskRow) bool { return r.Priority == p })
		if based < 0 {
			continue
		}
		for id := range x.Tasks {
			if x.Tasks[id].Priority == p {
				x.Tasks[id].Ring = len(x.Rings)
			}
		}
		x.Rings = append(x.Rings, api.RingRow{Priority: p})
	}
}

func (m *maker) alarms(x *api.Tables) {
	for range m.below(4) {
		r := api.CounterRow{Max: uint32(m.number(1, api.MaxTick)), Base: uint32(m.number(1, api.MaxTick))}
		r.Min = uint32(m.number(1, int(r.Max)))
		x.Counters = append(x.Counters, r)
	}
	if len(x.Counters) == 0 {
		return
	}
	for range m.below(6) {
		r := api.AlarmRow{Counter: m.below(len(x.Counters)), Action: m.action(x, 1, 3)}
		if k := x.Counters[r.Counter]; m.yes() {
			r.Auto = uint32(m.number(1, 1<<x.Modes-1))
			r.Time = uint32(m.number(1, int(k.Max)))
			r.Cycle = pick(&m.chance, 0, uint32(m.number(int(k.Min), int(k.Max))))
		}
		x.Alarms = append(x.Alarms, r)
	}
}

func (m *maker) isrs(x *api.Tables) {
	var all []int
	for p := 64; p <= 127; p++ {
		all = append(all, p)
	}
	shuffle(&m.chance, all)
	border := m.number(64, 128)
	for i := range m.below(5) {
		r := api.IsrRow{Category: 1, Priority: all[i]}
		if r.Priority < border {
			r.Category, r.Own = 2, m.own(x, r.Priority)
		}
		x.Isrs = append(x.Isrs, r)
	}
}

func (m *maker) messages(x *api.Tables) {
	n := m.below(7)
	if n == 0 {
		return
	}
	sent := m.below(n)
	for id := range n {
		if id == sent || m.below(4) == 0 {
			x.Messages = append(x.Messages, api.MessageRow{Kind: api.MsgSend, Length: pick(&m.chance, 1, 2, 4, 8)})
			continue
		}
		r := api.MessageRow{Kind: api.MsgUnqueued, From: sent, Init: uint64(m.number(0, 255)), Action: m.action(x, 0, 4)}
		if m.yes() {
			r.Kind, r.Init, r.Queue = api.MsgQueued, 0, m.number(1, 16)
		}
		x.Messages = append(x.Messages, r)
	}
	if x.Messages[sent].Length >= 4 {
		for id := range x.Messages {
			if x.Messages[id].Kind == api.MsgUnqueued {
				x.Messages[id].Init = uint64(m.number(0, math.MaxUint32))
			}
		}
	}
}

func (m *maker) action(x *api.Tables, least, most int) api.ActionRow {
	a := api.ActionRow{Kind: api.ActionKind(least + m.below(most-least+1))}
	if a.Kind == api.ActTask || a.Kind == api.ActEvent {
		a.Task = m.below(len(x.Tasks))
	}
	if a.Kind == api.ActEvent {
		mask := x.Tasks[a.Task].Mask
		if mask == 0 {
			return m.action(x, least, most)
		}
		a.Mask = mask & uint32(m.number(0, math.MaxUint32))
		if a.Mask == 0 {
			a.Mask = mask
		}
	}
	return a
}

// The maker makes what may be, and all kinds of it.
func TestMaker(t *testing.T) {
	m := &maker{1}
	met := map[string]int{}
	for range 2000 {
		x := m.tables()
		if table.Check(x) != api.OK {
			t.Fatalf("made %s", short(x))
		}
		for part, n := range countsOf(x) {
			met[[]string{"tasks", "rings", "resources", "counters", "alarms", "ISRs", "messages"}[part]] += n
		}
		for _, r := range x.Alarms {
			met["alarm's "+string(rune('0'+r.Action.Kind))]++
		}
		for _, r := range x.Messages {
			met["message's "+string(rune('0'+r.Action.Kind))]++
		}
		for _, r := range x.Isrs {
			met["ISR's Own"] += len(r.Own)
		}
	}
	if len(met) != 7+3+5+1 {
		t.Errorf("met %v", met)
	}
	for _, x := range []api.Tables{small(), whole(), greatest(), crowded()} {
		if table.Check(x) != api.OK {
			t.Errorf("may not be: %s", short(x))
		}
	}
}

// ints and uints are values to be tried at a place, beside others near the one that is there.
func ints(n int64) []int64 {
	return []int64{n + 1, n - 1, n + 2, n + 256, n + 1<<16, n + 1<<32, -1, -2, 0, 1, 2, 3, 4, 8, 63, 64, 65, 126, 127, 128, 254, 255, 256, 65535, 65536, 1 << 31, 1 << 32, math.MinInt64, math.MaxInt64}
}

func uints(n uint64) []uint64 {
	return []uint64{n + 1, n - 1, n + 256, n + 1<<16, n + 1<<32, n << 8, n >> 8, 0, 1, 2, 255, 256, 65535, 65536, 1<<31 - 1, 1 << 31, 1<<32 - 1, 1 << 32, 1<<64 - 1}
}

// turns is how many values there are to be tried at a place.
func turns(v reflect.Value) int {
	switch v.Kind() {
	case reflect.Bool:
		return 1
	case reflect.Int:
		return len(ints(0))
	case reflect.Uint32, reflect.Uint64:
		return len(uints(0))
	}
	return 3 + 2*v.Len()
}

// turn lays the n-th of these values into a place.
func turn(v reflect.Value, n int) {
	switch v.Kind() {
	case reflect.Bool:
		v.SetBool(!v.Bool())
	case reflect.Int:
		v.SetInt(ints(v.Int())[n])
	case reflect.Uint32, reflect.Uint64:
		v.SetUint(uints(v.Uint())[n])
	case reflect.Slice:
		turnList(v, n)
	}
}

// turnList makes a list empty, or longer, or leaves out one of its things, or puts it first.
func turnList(v reflect.Value, n int) {
	longer := func(by int) {
		for range by {
			x := reflect.Zero(v.Type().Elem())
			if v.Len() > 0 {
				x = copied(v.Index(v.Len() - 1))
			}
			v.Set(reflect.Append(v, x))
		}
	}
	switch i := n/2 - 1; {
	case n == 0:
		v.SetLen(0)
	case n == 1:
		longer(1)
	case n == 2+2*v.Len():
		longer(256)
	case n%2 == 0:
		v.Set(reflect.AppendSlice(v.Slice3(0, i, i), v.Slice(i+1, v.Len())))
	default:
		reflect.Swapper(v.Interface())(0, i)
	}
}
