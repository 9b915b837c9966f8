package names

import "tappet/api"

// writer writes the things of a configuration as items. What a sheet cannot say comes out as something else, or as what no sheet has: the caller has to look.
type writer struct {
	config api.Config
}

func sheetOf(c api.Config) api.Sheet {
	w := writer{config: c}
	items := []api.Item{osItem(c.OS)}
	items = appendItems(items, c.Modes, modeItem)
	items = appendItems(items, c.Tasks, w.task)
	items = appendItems(items, c.Isrs, w.isr)
	items = appendItems(items, c.Resources, w.resource)
	items = appendItems(items, c.Events, eventItem)
	items = appendItems(items, c.Counters, counterItem)
	items = appendItems(items, c.Alarms, w.alarm)
	items = appendItems(items, c.Messages, w.message)
	return api.Sheet{CPU: c.CPU, Items: items}
}

func appendItems[T any](items []api.Item, things []T, write func(T) api.Item) []api.Item {
	for _, x := range things {
		items = append(items, write(x))
	}
	return items
}

func saying(name, word string, params ...api.Entry) api.Entry {
	return api.Entry{Name: name, Word: word, Params: params}
}

// counting wraps a number that no attribute has round to another one, which is not read as itself.
func counting[N ~int | ~uint32 | ~uint64](name string, n N) api.Entry {
	return api.Entry{Name: name, Number: uint32(n)}
}

func telling(name string, yes bool) api.Entry {
	if yes {
		return saying(name, "TRUE")
	}
	return saying(name, "FALSE")
}

// ref names a thing; one that there is not has no name, as no ref may.
func (w writer) ref(name string, id int) api.Entry {
	called, _ := Name(w.config, meant(name), id)
	return saying(name, called)
}

func (w writer) refs(name string, ids []int) []api.Entry {
	var l []api.Entry
	for _, id := range ids {
		l = append(l, w.ref(name, id))
	}
	return l
}

func osItem(o api.Os) api.Item {
	return api.Item{Kind: "OS", Name: o.Name, Entries: []api.Entry{
		saying("STATUS", "EXTENDED"),
		telling("STARTUPHOOK", o.Startup),
		telling("ERRORHOOK", o.Error),
		telling("SHUTDOWNHOOK", o.Shutdown),
		telling("PRETASKHOOK", o.PreTask),
		telling("POSTTASKHOOK", o.PostTask),
		telling("USEGETSERVICEID", o.Service),
		telling("USEPARAMETERACCESS", o.Params),
		telling("USERESSCHEDULER", o.Schedule),
	}}
}

func modeItem(name string) api.Item { return api.Item{Kind: "APPMODE", Name: name} }

func (w writer) task(t api.Task) api.Item {
	schedule := "NON"
	if t.Full {
		schedule = "FULL"
	}
	l := []api.Entry{
		counting("PRIORITY", t.Priority),
		saying("SCHEDULE", schedule),
		counting("ACTIVATION", t.Activation),
		w.autostart(t.Auto),
	}
	l = append(l, w.refs("RESOURCE", t.Resources)...)
	l = append(l, w.refs("EVENT", t.Events)...)
	l = append(l, w.refs("MESSAGE", t.Messages)...)
	return api.Item{Kind: "TASK", Name: t.Name, Entries: l}
}

// autostart tells in which modes something starts, behind what else is said of its start.
func (w writer) autostart(modes []int, more ...api.Entry) api.Entry {
	if len(modes) == 0 {
		return saying("AUTOSTART", "FALSE")
	}
	return saying("AUTOSTART", "TRUE", append(more, w.refs("APPMODE", modes)...)...)
}

func (w writer) isr(i api.Isr) api.Item {
	l := []api.Entry{counting("CATEGORY", i.Category), counting("PRIORITY", i.Priority)}
	l = append(l, w.refs("RESOURCE", i.Resources)...)
	l = append(l, w.refs("MESSAGE", i.Messages)...)
	return api.Item{Kind: "ISR", Name: i.Name, Entries: l}
}

func (w writer) resource(r api.Resource) api.Item {
	property := saying("RESOURCEPROPERTY", wordAt(resourceWords(), r.Kind))
	if r.Kind == api.ResLinked {
		property.Params = []api.Entry{w.ref("LINKEDRESOURCE", r.Link)}
	}
	return api.Item{Kind: "RESOURCE", Name: r.Name, Entries: []api.Entry{property}}
}

func eventItem(e api.Event) api.Item {
	mask := counting("MASK", e.Mask)
	if e.Auto {
		mask = api.Entry{Name: "MASK", Auto: true}
	}
	return api.Item{Kind: "EVENT", Name: e.Name, Entries: []api.Entry{mask}}
}

func counterItem(c api.Counter) api.Item {
	return api.Item{Kind: "COUNTER", Name: c.Name, Entries: []api.Entry{
		counting("MAXALLOWEDVALUE", c.Max),
		counting("TICKSPERBASE", c.Base),
		counting("MINCYCLE", c.Min),
	}}
}

func (w writer) alarm(a api.Alarm) api.Item {
	return api.Item{Kind: "ALARM", Name: a.Name, Entries: []api.Entry{
		w.ref("COUNTER", a.Counter),
		w.action("ACTION", alarmWords(), "ALARMCALLBACKNAME", a.Action),
		w.autostart(a.Auto, counting("ALARMTIME", a.Time), counting("CYCLETIME", a.Cycle)),
	}}
}

func (w writer) message(m api.Message) api.Item {
	property := saying("MESSAGEPROPERTY", wordAt(messageWords(), m.Kind))
	switch m.Kind {
	case api.MsgSend:
		property.Params = []api.Entry{saying("CDATATYPE", wordAt(lengthWords(), m.Length))}
	case api.MsgUnqueued:
		property.Params = []api.Entry{w.ref("SENDINGMESSAGE", m.From), counting("INITIALVALUE", m.Init)}
	case api.MsgQueued:
		property.Params = []api.Entry{w.ref("SENDINGMESSAGE", m.From), counting("QUEUESIZE", m.Queue)}
	}
	notice := w.action("NOTIFICATION", noticeWords(), "COMCALLBACKNAME", m.Action)
	return api.Item{Kind: "MESSAGE", Name: m.Name, Entries: []api.Entry{property, notice}}
}

// action writes an action under the words that an attribute has for its kinds, with the name that it gives a routine.
func (w writer) action(name string, words []string, routine string, a api.Action) api.Entry {
	e := saying(name, wordAt(words, a.Kind))
	switch a.Kind {
	case api.ActTask:
		e.Params = []api.Entry{w.ref("TASK", a.Task)}
	case api.ActEvent:
		e.Params = []api.Entry{w.ref("TASK", a.Task), w.ref("EVENT", a.Event)}
	case api.ActCallback:
		e.Params = []api.Entry{saying(routine, a.Name)}
	case api.ActFlag:
		e.Params = []api.Entry{saying("FLAGNAME", a.Name)}
	}
	return e
}
