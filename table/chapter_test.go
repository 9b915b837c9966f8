package table_test

import (
	"slices"

	"tappet/api"
)

// A second reading of the chapter, slow and word by word.

func has[T any](l []T, id int) bool { return id >= 0 && id < len(l) }

// end is the resource for which one stands.
func end(c api.Config, id int) int {
	for c.Resources[id].Kind == api.ResLinked {
		id = c.Resources[id].Link
	}
	return id
}

// ceilingOf is the greatest priority of those who name the resource, or one that stands for the same; -1: there is none.
func ceilingOf(c api.Config, id int) int {
	top := -1
	look := func(priority int, l []int) {
		for _, other := range l {
			if end(c, other) == end(c, id) && priority > top {
				top = priority
			}
		}
	}
	for _, t := range c.Tasks {
		look(t.Priority, t.Resources)
	}
	for _, i := range c.Isrs {
		look(i.Priority, i.Resources)
	}
	return top
}

// tablesOf are the tables of a configuration that may be (P9.1).
func tablesOf(c api.Config) api.Tables {
	x := api.Tables{Modes: len(c.Modes)}
	for bit, said := range []bool{c.OS.Startup, c.OS.Error, c.OS.Shutdown, c.OS.PreTask, c.OS.PostTask, c.OS.Service, c.OS.Params, c.OS.Schedule} {
		if said {
			x.Uses |= 1 << bit
		}
	}
	for p := 63; p >= 0; p-- {
		ring := api.RingRow{Priority: p}
		for _, t := range c.Tasks {
			if t.Priority == p {
				ring.Capacity += t.Activation
			}
		}
		if ring.Capacity > 0 {
			x.Rings = append(x.Rings, ring)
		}
	}
	for id, r := range c.Resources {
		x.Resources = append(x.Resources, api.ResourceRow{Internal: r.Kind == 3, Ceiling: ceilingOf(c, id)})
	}
	if c.OS.Schedule {
		x.Resources = append(x.Resources, api.ResourceRow{Ceiling: x.Rings[0].Priority})
	}
	for _, t := range c.Tasks {
		x.Tasks = append(x.Tasks, taskOf(c, x, t))
	}
	for _, k := range c.Counters {
		x.Counters = append(x.Counters, api.CounterRow{Max: k.Max, Base: k.Base, Min: k.Min})
	}
	for _, a := range c.Alarms {
		x.Alarms = append(x.Alarms, api.AlarmRow{Counter: a.Counter, Action: actionOf(c, a.Action), Auto: modesOf(a.Auto), Time: a.Time, Cycle: a.Cycle})
	}
	for _, i := range c.Isrs {
		x.Isrs = append(x.Isrs, api.IsrRow{Category: i.Category, Priority: i.Priority, Own: append([]int(nil), i.Resources...)})
	}
	for _, m := range c.Messages {
		x.Messages = append(x.Messages, api.MessageRow{Kind: m.Kind, Length: m.Length, From: m.From, Init: m.Init, Queue: m.Queue, Action: actionOf(c, m.Action)})
	}
	x.Depth, x.Frames, x.Errors, x.Callbacks = len(x.Rings), len(c.Isrs)+4, errorsOf(x), callbacksOf(x)
	return x
}

func taskOf(c api.Config, x api.Tables, t api.Task) api.TaskRow {
	row := api.TaskRow{Priority: t.Priority, Full: t.Full, Limit: t.Activation, Internal: -1, Auto: modesOf(t.Auto)}
	for place, r := range x.Rings {
		if r.Priority == t.Priority {
			row.Ring = place
		}
	}
	for _, e := range t.Events {
		row.Mask |= c.Events[e].Mask
	}
	for _, r := range t.Resources {
		if x.Resources[r].Internal {
			row.Internal = x.Resources[r].Ceiling
		} else {
			row.Own = append(row.Own, r)
		}
	}
	if c.OS.Schedule {
		row.Own = append(row.Own, len(c.Resources))
	}
	return row
}

func modesOf(l []int) uint32 {
	n := uint32(0)
	for _, mode := range l {
		n += []uint32{1, 2, 4, 8, 16, 32, 64, 128}[mode]
	}
	return n
}

func actionOf(c api.Config, a api.Action) api.ActionRow {
	switch a.Kind {
	case 1:
		return api.ActionRow{Kind: 1, Task: a.Task}
	case 2:
		return api.ActionRow{Kind: 2, Task: a.Task, Mask: c.Events[a.Event].Mask}
	}
	return api.ActionRow{Kind: a.Kind}
}

// errorsOf asks each counter, and each sent message, how many alarms, or received ones, are its own.
func errorsOf(x api.Tables) int {
	most := 2
	for id := range x.Counters {
		n := 0
		for _, a := range x.Alarms {
			if a.Counter == id {
				n++
			}
		}
		most = max(most, n)
	}
	for id, sent := range x.Messages {
		n := 0
		for _, m := range x.Messages {
			if sent.Kind == 1 && m.Kind != 1 && m.From == id {
				n++
			}
		}
		most = max(most, n)
	}
	return most
}

func callbacksOf(x api.Tables) int {
	n := 0
	for _, a := range x.Alarms {
		if a.Action.Kind == 3 {
			n++
		}
	}
	for _, m := range x.Messages {
		if m.Action.Kind == 3 {
			n++
		}
	}
	return n
}

// book notes what is not so of tables.
type book struct {
	x      api.Tables
	faults []string
}

// must notes a thing that is not so, once; it tells whether it is.
func (b *book) must(so bool, what string) bool {
	if !so && !slices.Contains(b.faults, what) {
		b.faults = append(b.faults, what)
	}
	return so
}

// faultsOf are the things of P9.2 that are not so, each once.
func faultsOf(x api.Tables) []string {
	b := &book{x: x}
	b.must(x.Uses >= 0 && x.Uses <= 255, "Uses")
	b.must(x.Modes >= 1 && x.Modes <= 8, "Modes")
	b.must(len(x.Tasks) >= 1, "no task")
	b.must(len(x.Tasks) <= 256, "too many tasks")
	b.must(len(x.Resources) <= 65, "too many resources")
	b.must(len(x.Counters) <= 16, "too many counters")
	b.must(len(x.Alarms) <= 64, "too many alarms")
	b.must(len(x.Isrs) <= 32, "too many ISRs")
	b.must(len(x.Messages) <= 64, "too many messages")
	for _, r := range x.Resources {
		b.must(r.Ceiling >= -1 && r.Ceiling <= 127, "Resource Ceiling")
	}
	b.rings()
	for _, t := range x.Tasks {
		b.task(t)
	}
	for _, k := range x.Counters {
		b.must(k.Max >= 1 && k.Max <= 2147483647, "Counter Max")
		b.must(k.Base >= 1 && k.Base <= 2147483647, "Counter Base")
		b.must(k.Min >= 1 && k.Min <= 2147483647, "Counter Min")
		b.must(k.Min <= k.Max, "Counter Min above Max")
	}
	for _, a := range x.Alarms {
		b.alarm(a)
	}
	b.isrs()
	for _, m := range x.Messages {
		b.message(m)
	}
	b.must(x.Depth == len(x.Rings), "Depth")
	b.must(x.Frames == len(x.Isrs)+4, "Frames")
	b.must(x.Errors == errorsOf(x), "Errors")
	b.must(x.Callbacks == callbacksOf(x), "Callbacks")
	return b.faults
}

func (b *book) rings() {
	for i, r := range b.x.Rings {
		b.must(r.Priority >= 0 && r.Priority <= 63, "Ring Priority")
		if i > 0 {
			b.must(r.Priority < b.x.Rings[i-1].Priority, "Rings fall")
		}
		total, some := 0, false
		for _, t := range b.x.Tasks {
			if t.Priority == r.Priority {
				total, some = total+t.Limit, true
			}
		}
		b.must(some, "Ring of no task")
		b.must(r.Capacity == total, "Ring Capacity")
	}
}

func (b *book) task(t api.TaskRow) {
	if b.must(has(b.x.Rings, t.Ring), "Task Ring is no place") {
		b.must(b.x.Rings[t.Ring].Priority == t.Priority, "Task Ring of another priority")
	}
	b.must(t.Limit >= 1 && t.Limit <= 255, "Task Limit")
	b.must(t.Mask == 0 || t.Limit == 1, "Task Limit with Mask")
	b.must(t.Internal == -1 || t.Internal >= t.Priority && t.Internal <= 127, "Task Internal")
	b.own("Task ", t.Own, t.Priority)
	b.auto("Task ", t.Auto)
}

func (b *book) own(who string, l []int, priority int) {
	for i, id := range l {
		if i > 0 {
			b.must(id > l[i-1], who+"Own rises")
		}
		if b.must(has(b.x.Resources, id), who+"Own is no id") {
			b.must(!b.x.Resources[id].Internal, who+"Own is internal")
			b.must(b.x.Resources[id].Ceiling >= priority, who+"Own has a ceiling below")
		}
	}
}

func (b *book) auto(who string, auto uint32) {
	if b.x.Modes >= 0 && b.x.Modes <= 31 {
		b.must(auto>>b.x.Modes == 0, who+"Auto")
	}
}

func (b *book) alarm(a api.AlarmRow) {
	b.action("Alarm ", a.Action, 1, 3)
	b.auto("Alarm ", a.Auto)
	if !b.must(has(b.x.Counters, a.Counter), "Alarm Counter") {
		return
	}
	if a.Auto == 0 {
		b.must(a.Time == 0, "Alarm Time without Auto")
		b.must(a.Cycle == 0, "Alarm Cycle without Auto")
		return
	}
	k := b.x.Counters[a.Counter]
	b.must(a.Time >= 1 && a.Time <= k.Max, "Alarm Time")
	b.must(a.Cycle == 0 || a.Cycle >= k.Min && a.Cycle <= k.Max, "Alarm Cycle")
}

func (b *book) action(who string, a api.ActionRow, least, most api.ActionKind) {
	b.must(a.Kind >= least && a.Kind <= most, who+"action's Kind")
	if a.Kind != 1 && a.Kind != 2 {
		b.must(a.Task == 0, who+"action's Task where there is none")
	}
	if a.Kind != 2 {
		b.must(a.Mask == 0, who+"action's Mask where there is none")
	}
	if a.Kind == 1 || a.Kind == 2 {
		b.must(has(b.x.Tasks, a.Task), who+"action's Task")
	}
	if a.Kind == 2 {
		b.must(a.Mask != 0, who+"action's Mask is 0")
		if has(b.x.Tasks, a.Task) {
			b.must(a.Mask|b.x.Tasks[a.Task].Mask == b.x.Tasks[a.Task].Mask, who+"action's Mask has other bits")
		}
	}
}

func (b *book) isrs() {
	for i, x := range b.x.Isrs {
		b.must(x.Category == 1 || x.Category == 2, "Isr Category")
		b.must(x.Priority >= 64 && x.Priority <= 127, "Isr Priority")
		b.own("Isr ", x.Own, x.Priority)
		b.must(x.Category != 1 || len(x.Own) == 0, "Isr Own of category 1")
		for j, y := range b.x.Isrs {
			b.must(i == j || x.Priority != y.Priority, "Isr Priority twice")
			if x.Category == 1 && y.Category == 2 {
				b.must(x.Priority >= y.Priority, "Isr of category 1 below one of category 2")
			}
		}
	}
}

func (b *book) message(m api.MessageRow) {
	if !b.must(m.Kind >= 1 && m.Kind <= 3, "Message Kind") {
		return
	}
	if m.Kind == 1 {
		b.must(slices.Contains([]int{1, 2, 4, 8}, m.Length), "Message Length")
		b.must(m.From == 0, "Message From of a sent one")
		b.must(m.Init == 0, "Message Init of a sent one")
		b.must(m.Queue == 0, "Message Queue of a sent one")
		b.action("sent Message ", m.Action, 0, 0)
		return
	}
	b.must(m.Length == 0, "Message Length of a received one")
	if m.Kind == 2 {
		b.must(m.Queue == 0, "Message Queue of an unqueued one")
	} else {
		b.must(m.Init == 0, "Message Init of a queued one")
		b.must(m.Queue >= 1 && m.Queue <= 16, "Message Queue")
	}
	b.must(m.Init <= 4294967295, "Message Init")
	if b.must(has(b.x.Messages, m.From), "Message From is no id") && b.must(b.x.Messages[m.From].Kind == 1, "Message From is not sent") {
		for length, most := range []uint64{0, 1<<8 - 1, 1<<16 - 1, 1<<24 - 1, 1<<32 - 1, 1<<40 - 1, 1<<48 - 1, 1<<56 - 1} {
			b.must(b.x.Messages[m.From].Length != length || m.Init <= most, "Message Init beyond the Length")
		}
	}
	b.action("Message ", m.Action, 0, 4)
}

// rules are all the things that faultsOf may note.
func rules() []string {
	l := []string{
		"Uses", "Modes", "no task", "too many tasks", "too many resources", "too many counters", "too many alarms", "too many ISRs", "too many messages",
		"Resource Ceiling", "Ring Priority", "Rings fall", "Ring of no task", "Ring Capacity",
		"Task Ring is no place", "Task Ring of another priority", "Task Limit", "Task Limit with Mask", "Task Internal", "Task Auto",
		"Counter Max", "Counter Base", "Counter Min", "Counter Min above Max",
		"Alarm Counter", "Alarm Auto", "Alarm Time without Auto", "Alarm Cycle without Auto", "Alarm Time", "Alarm Cycle",
		"Isr Category", "Isr Priority", "Isr Own of category 1", "Isr Priority twice", "Isr of category 1 below one of category 2",
		"Message Kind", "Message Length", "Message From of a sent one", "Message Init of a sent one", "Message Queue of a sent one",
		"Message Length of a received one", "Message Queue of an unqueued one", "Message Init of a queued one", "Message Queue",
		"Message Init", "Message From is no id", "Message From is not sent", "Message Init beyond the Length",
		"Depth", "Frames", "Errors", "Callbacks", "sent Message action's Kind", "sent Message action's Task where there is none", "sent Message action's Mask where there is none",
	}
	for _, who := range []string{"Task ", "Isr "} {
		l = append(l, who+"Own rises", who+"Own is no id", who+"Own is internal", who+"Own has a ceiling below")
	}
	for _, who := range []string{"Alarm ", "Message "} {
		l = append(l, who+"action's Kind", who+"action's Task where there is none", who+"action's Mask where there is none")
		l = append(l, who+"action's Task", who+"action's Mask is 0", who+"action's Mask has other bits")
	}
	return l
}

// mend makes the numbers that follow from other rows right again: Capacities, Depth, Frames, Errors, Callbacks.
func mend(x *api.Tables) {
	for i := range x.Rings {
		x.Rings[i].Capacity = 0
		for _, t := range x.Tasks {
			if t.Priority == x.Rings[i].Priority {
				x.Rings[i].Capacity += t.Limit
			}
		}
	}
	x.Depth, x.Frames, x.Errors, x.Callbacks = len(x.Rings), len(x.Isrs)+4, errorsOf(*x), callbacksOf(*x)
}
