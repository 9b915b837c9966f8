package names_test

import (
	"slices"
	"strings"
	"testing"

	"tappet/api"
	"tappet/names"
	"tappet/schema"
	"tappet/tree"
)

// A second reading of the chapter: what P6.1 and P6.3 say of a sheet, and which configurations P6.4 has a sheet of, told without looking anything up but by going through all there is.

// kindOfRef is what a ref means; none, if an attribute is no ref.
func kindOfRef(name string) string {
	return map[string]string{
		"APPMODE": "APPMODE", "RESOURCE": "RESOURCE", "EVENT": "EVENT", "MESSAGE": "MESSAGE", "COUNTER": "COUNTER", "TASK": "TASK",
		"LINKEDRESOURCE": "RESOURCE", "SENDINGMESSAGE": "MESSAGE",
	}[name]
}

// numberOf is the number of an item of a kind with a name; -1: there is none.
func numberOf(s api.Sheet, kind, name string) int {
	n := 0
	for _, item := range s.Items {
		if item.Kind == kind && item.Name == name {
			return n
		}
		if item.Kind == kind {
			n++
		}
	}
	return -1
}

func hasSent(s api.Sheet, name string) bool {
	return slices.ContainsFunc(s.Items, func(item api.Item) bool {
		return item.Kind == "MESSAGE" && item.Name == name && item.Entries[0].Word == "SEND_STATIC_INTERNAL"
	})
}

// faultsIn are the faults of P6.1's point 4 in some entries.
func faultsIn(s api.Sheet, l []api.Entry) []api.Fault {
	var faults []api.Fault
	for i, e := range l {
		wrong := func(code api.Errno) { faults = append(faults, api.Fault{Code: code, At: e.At, Name: e.Word}) }
		if e.Name == "STATUS" && e.Word == "STANDARD" {
			wrong(api.ErrStandard)
		}
		if kind := kindOfRef(e.Name); kind != "" {
			if numberOf(s, kind, e.Word) < 0 || e.Name == "SENDINGMESSAGE" && !hasSent(s, e.Word) {
				wrong(api.ErrUnknown)
			}
			for _, ahead := range l[:i] {
				if ahead.Name == e.Name && ahead.Word == e.Word {
					wrong(api.ErrAgain)
				}
			}
		}
		faults = append(faults, faultsIn(s, e.Params)...)
	}
	return faults
}

// faultsOf are the faults of a sheet in P6.1's order, but for ErrMask.
func faultsOf(s api.Sheet) []api.Fault {
	if _, e := schema.Write(s); e != api.OK {
		return []api.Fault{{Code: api.ErrArg}}
	}
	var faults []api.Fault
	n := 0
	for _, item := range s.Items {
		if item.Kind == "OS" {
			n++
		}
	}
	if n != 1 {
		faults = append(faults, api.Fault{Code: api.ErrOs})
	}
	for i, item := range s.Items {
		if slices.ContainsFunc(s.Items[:i], func(ahead api.Item) bool { return ahead.Kind == item.Kind && ahead.Name == item.Name }) {
			faults = append(faults, api.Fault{Code: api.ErrDouble, At: item.At, Name: item.Name})
		}
	}
	for _, item := range s.Items {
		faults = append(faults, faultsIn(s, item.Entries)...)
	}
	return faults
}

// masksOf finds the masks of P6.3; it answers besides the first event for which no bit is left, or -1.
func masksOf(events []api.Event, tasks []api.Task) ([]uint32, int) {
	together := func(a, b int) bool {
		return a != b && slices.ContainsFunc(tasks, func(t api.Task) bool { return slices.Contains(t.Events, a) && slices.Contains(t.Events, b) })
	}
	masks := make([]uint32, len(events))
	for i, e := range events {
		if !e.Auto {
			masks[i] = e.Mask
		}
	}
	for i, e := range events {
		if !e.Auto {
			continue
		}
		for bit := uint32(1); bit != 0 && masks[i] == 0; bit <<= 1 {
			free := true
			for j := range events {
				free = free && (!together(i, j) || masks[j]&bit == 0)
			}
			if free {
				masks[i] = bit
			}
		}
		if masks[i] == 0 {
			return nil, i
		}
	}
	return masks, -1
}

func last[T any](l []T) *T { return &l[len(l)-1] }

// tell adds what an entry of the last item of a kind says to a configuration.
func tell(c *api.Config, s api.Sheet, kind string, e api.Entry) {
	n := int(e.Number)
	id := numberOf(s, kindOfRef(e.Name), e.Word)
	yes := e.Word == "TRUE"
	at := func(words string) int { return slices.Index(strings.Fields(words), e.Word) }
	switch kind + " " + e.Name {
	case "OS STARTUPHOOK":
		c.OS.Startup = yes
	case "OS ERRORHOOK":
		c.OS.Error = yes
	case "OS SHUTDOWNHOOK":
		c.OS.Shutdown = yes
	case "OS PRETASKHOOK":
		c.OS.PreTask = yes
	case "OS POSTTASKHOOK":
		c.OS.PostTask = yes
	case "OS USEGETSERVICEID":
		c.OS.Service = yes
	case "OS USEPARAMETERACCESS":
		c.OS.Params = yes
	case "OS USERESSCHEDULER":
		c.OS.Schedule = yes
	case "TASK PRIORITY":
		last(c.Tasks).Priority = n
	case "TASK SCHEDULE":
		last(c.Tasks).Full = e.Word == "FULL"
	case "TASK ACTIVATION":
		last(c.Tasks).Activation = n
	case "TASK APPMODE":
		last(c.Tasks).Auto = append(last(c.Tasks).Auto, id)
	case "TASK RESOURCE":
		last(c.Tasks).Resources = append(last(c.Tasks).Resources, id)
	case "TASK EVENT":
		last(c.Tasks).Events = append(last(c.Tasks).Events, id)
	case "TASK MESSAGE":
		last(c.Tasks).Messages = append(last(c.Tasks).Messages, id)
	case "ISR CATEGORY":
		last(c.Isrs).Category = n
	case "ISR PRIORITY":
		last(c.Isrs).Priority = n
	case "ISR RESOURCE":
		last(c.Isrs).Resources = append(last(c.Isrs).Resources, id)
	case "ISR MESSAGE":
		last(c.Isrs).Messages = append(last(c.Isrs).Messages, id)
	case "RESOURCE RESOURCEPROPERTY":
		last(c.Resources).Kind = api.ResourceKind(at("- STANDARD LINKED INTERNAL"))
	case "RESOURCE LINKEDRESOURCE":
		last(c.Resources).Link = id
	case "EVENT MASK":
		last(c.Events).Mask, last(c.Events).Auto = e.Number, e.Auto
	case "COUNTER MAXALLOWEDVALUE":
		last(c.Counters).Max = e.Number
	case "COUNTER TICKSPERBASE":
		last(c.Counters).Base = e.Number
	case "COUNTER MINCYCLE":
		last(c.Counters).Min = e.Number
	case "ALARM COUNTER":
		last(c.Alarms).Counter = id
	case "ALARM ACTION":
		last(c.Alarms).Action.Kind = api.ActionKind(at("- ACTIVATETASK SETEVENT ALARMCALLBACK"))
	case "ALARM TASK":
		last(c.Alarms).Action.Task = id
	case "ALARM EVENT":
		last(c.Alarms).Action.Event = id
	case "ALARM ALARMCALLBACKNAME":
		last(c.Alarms).Action.Name = e.Word
	case "ALARM ALARMTIME":
		last(c.Alarms).Time = e.Number
	case "ALARM CYCLETIME":
		last(c.Alarms).Cycle = e.Number
	case "ALARM APPMODE":
		last(c.Alarms).Auto = append(last(c.Alarms).Auto, id)
	case "MESSAGE MESSAGEPROPERTY":
		last(c.Messages).Kind = api.MessageKind(at("- SEND_STATIC_INTERNAL RECEIVE_UNQUEUED_INTERNAL RECEIVE_QUEUED_INTERNAL"))
	case "MESSAGE CDATATYPE":
		last(c.Messages).Length = 1 << at("uint8 uint16 uint32 uint64")
	case "MESSAGE SENDINGMESSAGE":
		last(c.Messages).From = id
	case "MESSAGE INITIALVALUE":
		last(c.Messages).Init = uint64(e.Number)
	case "MESSAGE QUEUESIZE":
		last(c.Messages).Queue = n
	case "MESSAGE NOTIFICATION":
		last(c.Messages).Action.Kind = api.ActionKind(at("NONE ACTIVATETASK SETEVENT COMCALLBACK FLAG"))
	case "MESSAGE TASK":
		last(c.Messages).Action.Task = id
	case "MESSAGE EVENT":
		last(c.Messages).Action.Event = id
	case "MESSAGE COMCALLBACKNAME", "MESSAGE FLAGNAME":
		last(c.Messages).Action.Name = e.Word
	}
}

func begin(c *api.Config, item api.Item) {
	switch item.Kind {
	case "OS":
		c.OS.Name = item.Name
	case "APPMODE":
		c.Modes = append(c.Modes, item.Name)
	case "TASK":
		c.Tasks = append(c.Tasks, api.Task{Name: item.Name})
	case "ISR":
		c.Isrs = append(c.Isrs, api.Isr{Name: item.Name})
	case "RESOURCE":
		c.Resources = append(c.Resources, api.Resource{Name: item.Name})
	case "EVENT":
		c.Events = append(c.Events, api.Event{Name: item.Name})
	case "COUNTER":
		c.Counters = append(c.Counters, api.Counter{Name: item.Name})
	case "ALARM":
		c.Alarms = append(c.Alarms, api.Alarm{Name: item.Name})
	case "MESSAGE":
		c.Messages = append(c.Messages, api.Message{Name: item.Name})
	}
}

// asTold is what Resolve must answer.
func asTold(s api.Sheet) (api.Config, api.Fault) {
	if faults := faultsOf(s); len(faults) > 0 {
		return api.Config{}, faults[0]
	}
	c := api.Config{CPU: s.CPU}
	var events []api.Item
	for _, item := range s.Items {
		begin(&c, item)
		for _, e := range item.Entries {
			tell(&c, s, item.Kind, e)
			for _, p := range e.Params {
				tell(&c, s, item.Kind, p)
			}
		}
		if item.Kind == "EVENT" {
			events = append(events, item)
		}
	}
	for _, x := range c.Tasks {
		slices.Sort(x.Auto)
		slices.Sort(x.Resources)
		slices.Sort(x.Events)
		slices.Sort(x.Messages)
	}
	for _, x := range c.Isrs {
		slices.Sort(x.Resources)
		slices.Sort(x.Messages)
	}
	for i := range c.Alarms {
		slices.Sort(c.Alarms[i].Auto)
		if len(c.Alarms[i].Auto) == 0 {
			c.Alarms[i].Time, c.Alarms[i].Cycle = 0, 0
		}
	}
	masks, none := masksOf(c.Events, c.Tasks)
	if none >= 0 {
		return api.Config{}, api.Fault{Code: api.ErrMask, At: events[none].At, Name: events[none].Name}
	}
	for i := range c.Events {
		c.Events[i].Mask = masks[i]
	}
	return c, api.Fault{}
}

// follows holds Resolve of a sheet against the second reading; it answers the code of the fault.
func follows(t *testing.T, s api.Sheet) api.Errno {
	t.Helper()
	want, fault := asTold(s)
	if c, f := names.Resolve(s); f != fault || !same(c, want) {
		t.Errorf("Resolve(%s): %s %v, not %s %v", short(s), short(c), f, short(want), fault)
	}
	return fault.Code
}

// within tells whether a number is one of a kind of which there are n; rise whether a list holds such numbers, each greater than the one ahead.
func within(id, n int) bool { return 0 <= id && id < n }

func rise(l []int, n int) bool {
	for i, id := range l {
		if !within(id, n) || i > 0 && l[i-1] >= id {
			return false
		}
	}
	return true
}

// named tells whether things have names of layer 2, each another one.
func named[T any](l []T, name func(T) string) bool {
	for i, x := range l {
		if !nameOf2(name(x)) || slices.ContainsFunc(l[:i], func(ahead T) bool { return name(ahead) == name(x) }) {
			return false
		}
	}
	return true
}

func allNamed(c api.Config) bool {
	return nameOf2(c.CPU) && nameOf2(c.OS.Name) && named(c.Modes, func(s string) string { return s }) &&
		named(c.Tasks, func(x api.Task) string { return x.Name }) && named(c.Isrs, func(x api.Isr) string { return x.Name }) &&
		named(c.Resources, func(x api.Resource) string { return x.Name }) && named(c.Events, func(x api.Event) string { return x.Name }) &&
		named(c.Counters, func(x api.Counter) string { return x.Name }) && named(c.Alarms, func(x api.Alarm) string { return x.Name }) &&
		named(c.Messages, func(x api.Message) string { return x.Name })
}

func mayAct(c api.Config, a api.Action) bool {
	task, event := within(a.Task, len(c.Tasks)), within(a.Event, len(c.Events))
	switch a.Kind {
	case api.ActNone:
		return a == api.Action{}
	case api.ActTask:
		return a == api.Action{Kind: a.Kind, Task: a.Task} && task
	case api.ActEvent:
		return a == api.Action{Kind: a.Kind, Task: a.Task, Event: a.Event} && task && event
	case api.ActCallback, api.ActFlag:
		return a == api.Action{Kind: a.Kind, Name: a.Name} && stringOf2(a.Name)
	}
	return false
}

func mayCome(c api.Config, m api.Message) bool {
	if !mayAct(c, m.Action) {
		return false
	}
	m.Name, m.Action = "", api.Action{}
	from := within(m.From, len(c.Messages)) && c.Messages[m.From].Kind == api.MsgSend
	switch m.Kind {
	case api.MsgSend:
		return m == api.Message{Kind: m.Kind, Length: m.Length} && slices.Contains([]int{1, 2, 4, 8}, m.Length)
	case api.MsgUnqueued:
		return m == api.Message{Kind: m.Kind, From: m.From, Init: m.Init} && from && m.Init <= api.MaxNumber
	case api.MsgQueued:
		return m == api.Message{Kind: m.Kind, From: m.From, Queue: m.Queue} && from && m.Queue >= 1 && m.Queue <= 16
	}
	return false
}

// hasSheet tells whether there is a sheet of which this configuration is made.
func hasSheet(c api.Config) bool {
	ok := allNamed(c)
	for _, x := range c.Tasks {
		ok = ok && x.Priority >= 0 && x.Priority <= 63 && x.Activation >= 1 && x.Activation <= 255
		ok = ok && rise(x.Auto, len(c.Modes)) && rise(x.Resources, len(c.Resources)) && rise(x.Events, len(c.Events)) && rise(x.Messages, len(c.Messages))
	}
	for _, x := range c.Isrs {
		ok = ok && (x.Category == 1 || x.Category == 2) && x.Priority >= 64 && x.Priority <= 127
		ok = ok && rise(x.Resources, len(c.Resources)) && rise(x.Messages, len(c.Messages))
	}
	for _, x := range c.Resources {
		ok = ok && (x.Kind == api.ResLinked && within(x.Link, len(c.Resources)) || (x.Kind == api.ResStandard || x.Kind == api.ResInternal) && x.Link == 0)
	}
	for _, x := range c.Counters {
		ok = ok && min(x.Max, x.Base, x.Min) >= 1 && max(x.Max, x.Base, x.Min) <= 2147483647
	}
	for _, x := range c.Alarms {
		ok = ok && within(x.Counter, len(c.Counters)) && mayAct(c, x.Action) && x.Action.Kind != api.ActNone && x.Action.Kind != api.ActFlag
		ok = ok && rise(x.Auto, len(c.Modes)) && max(x.Time, x.Cycle) <= 2147483647 && (len(x.Auto) > 0 || x.Time == 0 && x.Cycle == 0)
	}
	for _, x := range c.Messages {
		ok = ok && mayCome(c, x)
	}
	masks, none := masksOf(c.Events, c.Tasks)
	for i, x := range c.Events {
		ok = ok && none < 0 && x.Mask == masks[i] && x.Mask != 0
	}
	return ok
}

// asWritten is the sheet that P6.4 tells of a configuration that has one.
func asWritten(t *testing.T, c api.Config) api.Sheet {
	t.Helper()
	text := asText(c)
	x, f := tree.Parse(text)
	s, g := schema.Read(x)
	if f.Code != api.OK || g.Code != api.OK {
		t.Fatal(f, g, text)
	}
	return spotless(s)
}

// writtenAsTold holds Sheet of a configuration against the second reading; it answers whether there is one.
func writtenAsTold(t *testing.T, what string, c api.Config) bool {
	t.Helper()
	if !hasSheet(c) {
		writesNot(t, what, c)
		return false
	}
	if s, want := writes(t, c), asWritten(t, c); !same(s, want) {
		t.Errorf("%s: Sheet(%s): %s, not %s", what, short(c), short(s), short(want))
	}
	return true
}
