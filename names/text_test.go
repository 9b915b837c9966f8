package names_test

import (
	"strconv"
	"strings"

	"tappet/api"
	"tappet/token"
)

// texter writes a configuration that has a sheet as a text; what may be left out in it is left out.
type texter struct {
	strings.Builder
	c api.Config
}

func asText(c api.Config) string {
	x := &texter{c: c}
	x.put(`OIL_VERSION = "2.5"; CPU`, c.CPU, "{")
	x.os()
	for _, name := range c.Modes {
		x.put("APPMODE", name, "{ };")
	}
	each(c.Tasks, x.task)
	each(c.Isrs, x.isr)
	each(c.Resources, x.resource)
	each(c.Events, x.event)
	each(c.Counters, x.counter)
	each(c.Alarms, x.alarm)
	each(c.Messages, x.message)
	x.put("};")
	return x.String()
}

func each[T any](l []T, do func(T)) {
	for _, x := range l {
		do(x)
	}
}

func num[N ~int | ~uint32 | ~uint64](n N) string { return strconv.FormatUint(uint64(n), 10) }

func quoted(s string) string {
	spelt, _ := token.Spell(api.Token{Kind: api.TokenString, Text: s})
	return spelt
}

func (x *texter) put(words ...string) { x.WriteString(strings.Join(words, " ") + "\n") }

func (x *texter) refs(name string, ids []int, called func(id int) string) {
	for _, id := range ids {
		x.put(name, "=", called(id), ";")
	}
}

func (x *texter) modes(ids []int) {
	x.refs("APPMODE", ids, func(id int) string { return x.c.Modes[id] })
}

func (x *texter) resources(ids []int) {
	x.refs("RESOURCE", ids, func(id int) string { return x.c.Resources[id].Name })
}

func (x *texter) messages(ids []int) {
	x.refs("MESSAGE", ids, func(id int) string { return x.c.Messages[id].Name })
}

func (x *texter) flag(name string, is, left bool) {
	if is != left {
		x.put(name, "=", strings.ToUpper(strconv.FormatBool(is)), ";")
	}
}

func (x *texter) os() {
	o := x.c.OS
	x.put("OS", o.Name, "{")
	x.flag("STARTUPHOOK", o.Startup, false)
	x.flag("ERRORHOOK", o.Error, false)
	x.flag("SHUTDOWNHOOK", o.Shutdown, false)
	x.flag("PRETASKHOOK", o.PreTask, false)
	x.flag("POSTTASKHOOK", o.PostTask, false)
	x.flag("USEGETSERVICEID", o.Service, false)
	x.flag("USEPARAMETERACCESS", o.Params, false)
	x.flag("USERESSCHEDULER", o.Schedule, true)
	x.put("};")
}

func (x *texter) task(t api.Task) {
	schedule := map[bool]string{false: "NON", true: "FULL"}[t.Full]
	x.put("TASK", t.Name, "{ PRIORITY =", num(t.Priority), "; SCHEDULE =", schedule, "; ACTIVATION =", num(t.Activation), ";")
	if len(t.Auto) == 0 {
		x.put("AUTOSTART = FALSE;")
	} else {
		x.put("AUTOSTART = TRUE {")
		x.modes(t.Auto)
		x.put("};")
	}
	x.resources(t.Resources)
	x.refs("EVENT", t.Events, func(id int) string { return x.c.Events[id].Name })
	x.messages(t.Messages)
	x.put("};")
}

func (x *texter) isr(i api.Isr) {
	x.put("ISR", i.Name, "{ CATEGORY =", num(i.Category), "; PRIORITY =", num(i.Priority), ";")
	x.resources(i.Resources)
	x.messages(i.Messages)
	x.put("};")
}

func (x *texter) resource(r api.Resource) {
	x.put("RESOURCE", r.Name, "{ RESOURCEPROPERTY =")
	switch r.Kind {
	case api.ResStandard:
		x.put("STANDARD; };")
	case api.ResLinked:
		x.put("LINKED { LINKEDRESOURCE =", x.c.Resources[r.Link].Name, "; }; };")
	case api.ResInternal:
		x.put("INTERNAL; };")
	}
}

func (x *texter) event(e api.Event) {
	if e.Auto {
		x.put("EVENT", e.Name, "{ };")
	} else {
		x.put("EVENT", e.Name, "{ MASK =", num(e.Mask), "; };")
	}
}

func (x *texter) counter(c api.Counter) {
	x.put("COUNTER", c.Name, "{ MAXALLOWEDVALUE =", num(c.Max), "; TICKSPERBASE =", num(c.Base), "; MINCYCLE =", num(c.Min), "; };")
}

func (x *texter) alarm(a api.Alarm) {
	x.put("ALARM", a.Name, "{ COUNTER =", x.c.Counters[a.Counter].Name, ";")
	x.action("ACTION", a.Action, "ALARMCALLBACK")
	if len(a.Auto) == 0 {
		x.put("AUTOSTART = FALSE;")
	} else {
		x.put("AUTOSTART = TRUE { ALARMTIME =", num(a.Time), "; CYCLETIME =", num(a.Cycle), ";")
		x.modes(a.Auto)
		x.put("};")
	}
	x.put("};")
}

func (x *texter) message(m api.Message) {
	x.put("MESSAGE", m.Name, "{ MESSAGEPROPERTY =")
	switch m.Kind {
	case api.MsgSend:
		x.put("SEND_STATIC_INTERNAL { CDATATYPE =", quoted("uint"+num(8*m.Length)), "; };")
	case api.MsgUnqueued:
		x.put("RECEIVE_UNQUEUED_INTERNAL { SENDINGMESSAGE =", x.c.Messages[m.From].Name, "; INITIALVALUE =", num(m.Init), "; };")
	case api.MsgQueued:
		x.put("RECEIVE_QUEUED_INTERNAL { SENDINGMESSAGE =", x.c.Messages[m.From].Name, "; QUEUESIZE =", num(m.Queue), "; };")
	}
	x.action("NOTIFICATION", m.Action, "COMCALLBACK")
	x.put("};")
}

func (x *texter) action(name string, a api.Action, routine string) {
	switch a.Kind {
	case api.ActTask:
		x.put(name, "= ACTIVATETASK { TASK =", x.c.Tasks[a.Task].Name, "; };")
	case api.ActEvent:
		x.put(name, "= SETEVENT { TASK =", x.c.Tasks[a.Task].Name, "; EVENT =", x.c.Events[a.Event].Name, "; };")
	case api.ActCallback:
		x.put(name, "=", routine, "{", routine+"NAME =", quoted(a.Name), "; };")
	case api.ActFlag:
		x.put(name, "= FLAG { FLAGNAME =", quoted(a.Name), "; };")
	}
}
