package names

import (
	"cmp"
	"slices"

	"tappet/api"
	"tappet/schema"
)

func resolve(s api.Sheet) (api.Config, error) {
	if _, e := schema.Write(s); e != api.OK {
		return api.Config{}, &unresolved{reason: errSheet}
	}
	if !oneOs(s.Items) {
		return api.Config{}, &unresolved{reason: errOs}
	}
	b, err := bookOf(s.Items)
	if err != nil {
		return api.Config{}, err
	}
	if err := b.check(s.Items); err != nil {
		return api.Config{}, err
	}
	c, open := b.config(s)
	if err := findMasks(c, open); err != nil {
		return api.Config{}, err
	}
	return c, nil
}

func oneOs(items []api.Item) bool {
	n := 0
	for _, item := range items {
		if item.Kind == "OS" {
			n++
		}
	}
	return n == 1
}

// config reads items whose names are all in the book. It answers besides, by their numbers, the events whose masks are still to be found.
func (b book) config(s api.Sheet) (api.Config, map[int]api.Item) {
	c := api.Config{CPU: s.CPU}
	open := map[int]api.Item{}
	for _, item := range s.Items {
		switch item.Kind {
		case "OS":
			c.OS = osOf(item)
		case "APPMODE":
			c.Modes = append(c.Modes, item.Name)
		case "TASK":
			c.Tasks = append(c.Tasks, b.task(item))
		case "ISR":
			c.Isrs = append(c.Isrs, b.isr(item))
		case "RESOURCE":
			c.Resources = append(c.Resources, b.resource(item))
		case "EVENT":
			e := eventOf(item)
			if e.Auto {
				open[len(c.Events)] = item
			}
			c.Events = append(c.Events, e)
		case "COUNTER":
			c.Counters = append(c.Counters, counterOf(item))
		case "ALARM":
			c.Alarms = append(c.Alarms, b.alarm(item))
		case "MESSAGE":
			c.Messages = append(c.Messages, b.message(item))
		}
	}
	return c, open
}

// ref answers the number of what an attribute refers to; 0, if it is not there.
func (b book) ref(l []api.Entry, name string) int {
	id, _ := b.find(name, word(l, name))
	return id
}

// refs answers the numbers of all that an attribute refers to, rising.
func (b book) refs(l []api.Entry, name string) []int {
	var ids []int
	for _, e := range l {
		if e.Name == name {
			id, _ := b.find(name, e.Word)
			ids = append(ids, id)
		}
	}
	slices.Sort(ids)
	return ids
}

func osOf(item api.Item) api.Os {
	l := item.Entries
	return api.Os{
		Name:     item.Name,
		Startup:  flag(l, "STARTUPHOOK"),
		Error:    flag(l, "ERRORHOOK"),
		Shutdown: flag(l, "SHUTDOWNHOOK"),
		PreTask:  flag(l, "PRETASKHOOK"),
		PostTask: flag(l, "POSTTASKHOOK"),
		Service:  flag(l, "USEGETSERVICEID"),
		Params:   flag(l, "USEPARAMETERACCESS"),
		Schedule: flag(l, "USERESSCHEDULER"),
	}
}

func (b book) task(item api.Item) api.Task {
	l := item.Entries
	return api.Task{
		Name:       item.Name,
		Priority:   int(number(l, "PRIORITY")),
		Full:       word(l, "SCHEDULE") == "FULL",
		Activation: int(number(l, "ACTIVATION")),
		Auto:       b.refs(params(l, "AUTOSTART"), "APPMODE"),
		Resources:  b.refs(l, "RESOURCE"),
		Events:     b.refs(l, "EVENT"),
		Messages:   b.refs(l, "MESSAGE"),
	}
}

func (b book) isr(item api.Item) api.Isr {
	l := item.Entries
	return api.Isr{
		Name:      item.Name,
		Category:  int(number(l, "CATEGORY")),
		Priority:  int(number(l, "PRIORITY")),
		Resources: b.refs(l, "RESOURCE"),
		Messages:  b.refs(l, "MESSAGE"),
	}
}

func (b book) resource(item api.Item) api.Resource {
	property := entry(item.Entries, "RESOURCEPROPERTY")
	return api.Resource{
		Name: item.Name,
		Kind: placeOf[api.ResourceKind](resourceWords(), property.Word),
		Link: b.ref(property.Params, "LINKEDRESOURCE"),
	}
}

func eventOf(item api.Item) api.Event {
	mask := entry(item.Entries, "MASK")
	return api.Event{Name: item.Name, Mask: mask.Number, Auto: mask.Auto}
}

func counterOf(item api.Item) api.Counter {
	l := item.Entries
	return api.Counter{
		Name: item.Name,
		Max:  number(l, "MAXALLOWEDVALUE"),
		Base: number(l, "TICKSPERBASE"),
		Min:  number(l, "MINCYCLE"),
	}
}

func (b book) alarm(item api.Item) api.Alarm {
	l := item.Entries
	a := api.Alarm{
		Name:    item.Name,
		Counter: b.ref(l, "COUNTER"),
		Action:  b.action(alarmWords(), entry(l, "ACTION")),
	}
	start := params(l, "AUTOSTART")
	a.Auto = b.refs(start, "APPMODE")
	// An alarm that no mode starts has no time, though its text may tell one.
	if len(a.Auto) > 0 {
		a.Time = number(start, "ALARMTIME")
		a.Cycle = number(start, "CYCLETIME")
	}
	return a
}

func (b book) message(item api.Item) api.Message {
	property := entry(item.Entries, "MESSAGEPROPERTY")
	l := property.Params
	m := api.Message{
		Name:   item.Name,
		Kind:   placeOf[api.MessageKind](messageWords(), property.Word),
		From:   b.ref(l, "SENDINGMESSAGE"),
		Init:   uint64(number(l, "INITIALVALUE")),
		Queue:  int(number(l, "QUEUESIZE")),
		Action: b.action(noticeWords(), entry(item.Entries, "NOTIFICATION")),
	}
	if m.Kind == api.MsgSend {
		m.Length = placeOf[int](lengthWords(), word(l, "CDATATYPE"))
	}
	return m
}

func (b book) action(words []string, e api.Entry) api.Action {
	l := e.Params
	return api.Action{
		Kind:  placeOf[api.ActionKind](words, e.Word),
		Task:  b.ref(l, "TASK"),
		Event: b.ref(l, "EVENT"),
		Name:  cmp.Or(word(l, "ALARMCALLBACKNAME"), word(l, "COMCALLBACKNAME"), word(l, "FLAGNAME")),
	}
}
