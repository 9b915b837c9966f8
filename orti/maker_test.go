package orti_test

import (
	"reflect"
	"slices"
	"strconv"
	"strings"

	"tappet/api"
)

// maker makes configurations, facts, texts and looks by chance.
type maker struct{ chance }

func (m *maker) yes() bool { return m.below(2) == 0 }

func (m *maker) number(least, most int) int {
	return pick(&m.chance, least, most, least+m.below(most-least+1))
}

// list are n names, each another one.
func (m *maker) list(n int) []string {
	l := []string{"a", "_", "Z", "A0", "TASK", "RES_SCHEDULER"}
	for i := range n {
		l = append(l, "n"+strconv.Itoa(i))
	}
	shuffle(&m.chance, l)
	return l[:n]
}

// ids are some of n numbers, rising, to which a function does not object.
func (m *maker) ids(n int, fits func(id int) bool) []int {
	var l []int
	odds := 1 + m.below(3)
	for id := range n {
		if m.below(odds) == 0 && fits(id) {
			l = append(l, id)
		}
	}
	return l
}

// anyID objects to none.
func anyID(int) bool { return true }

// config makes a configuration that may be.
func (m *maker) config() api.Config {
	c := api.Config{CPU: "c", Modes: m.list(1 + m.below(8))}
	c.OS = api.Os{Name: "o", Startup: m.yes(), Error: m.yes(), Shutdown: m.yes(), PreTask: m.yes(), PostTask: m.yes(), Service: m.yes(), Params: m.yes(), Schedule: m.yes()}
	m.resources(&c)
	for _, name := range m.list(m.below(8)) {
		mask := pick(&m.chance, uint32(1)<<m.below(32), 3<<m.below(32), 1, 1<<31)
		c.Events = append(c.Events, api.Event{Name: name, Mask: max(mask, 1), Auto: m.yes()})
	}
	m.messages(&c)
	m.tasks(&c)
	m.isrs(&c)
	m.alarms(&c)
	for i := range c.Messages {
		if c.Messages[i].Kind != api.MsgSend {
			c.Messages[i].Action = m.action(c, 0, 4)
		}
	}
	return c
}

// resources: a linked one stands for one that came ahead of it by chance, not by its id.
func (m *maker) resources(c *api.Config) {
	names := m.list(m.below(8))
	c.Resources = make([]api.Resource, len(names))
	order := make([]int, len(names))
	for i := range order {
		order[i] = i
	}
	shuffle(&m.chance, order)
	var targets []int
	for _, id := range order {
		r := api.Resource{Name: names[id], Kind: pick(&m.chance, api.ResStandard, api.ResLinked, api.ResInternal)}
		if r.Kind == api.ResLinked && len(targets) == 0 {
			r.Kind = api.ResStandard
		}
		if r.Kind == api.ResLinked {
			r.Link = pick(&m.chance, targets...)
		}
		if r.Kind != api.ResInternal {
			targets = append(targets, id)
		}
		c.Resources[id] = r
	}
}

func (m *maker) messages(c *api.Config) {
	var sent []int
	for id, name := range m.list(m.below(10)) {
		if m.below(3) == 0 {
			sent = append(sent, id)
		}
		c.Messages = append(c.Messages, api.Message{Name: name, Kind: api.MsgSend, Length: pick(&m.chance, 1, 2, 4, 8)})
	}
	for id := range c.Messages {
		if len(sent) == 0 || slices.Contains(sent, id) {
			continue
		}
		x := api.Message{Name: c.Messages[id].Name, Kind: api.MsgQueued, From: pick(&m.chance, sent...), Queue: m.number(1, 16)}
		if m.yes() {
			most := min(1<<(8*min(c.Messages[x.From].Length, 7))-1, api.MaxNumber)
			x.Kind, x.Queue, x.Init = api.MsgUnqueued, 0, uint64(m.number(0, most))
		}
		c.Messages[id] = x
	}
}

func (m *maker) tasks(c *api.Config) {
	top := pick(&m.chance, 1, 3, 63)
	for _, name := range m.list(1 + m.below(6)) {
		x := api.Task{Name: name, Priority: m.number(0, top), Full: m.yes(), Activation: pick(&m.chance, 1, m.number(1, 255)), Auto: m.ids(len(c.Modes), anyID), Messages: m.ids(len(c.Messages), anyID)}
		room := 1
		x.Resources = m.ids(len(c.Resources), func(id int) bool {
			if c.Resources[id].Kind == api.ResInternal {
				room--
			}
			return c.Resources[id].Kind != api.ResInternal || room == 0
		})
		if m.yes() {
			var taken uint32
			x.Events = m.ids(len(c.Events), func(id int) bool {
				fits := taken&c.Events[id].Mask == 0
				if fits {
					taken |= c.Events[id].Mask
				}
				return fits
			})
		}
		if len(x.Events) > 0 {
			x.Activation = 1
		}
		c.Tasks = append(c.Tasks, x)
	}
}

func (m *maker) isrs(c *api.Config) {
	var all []int
	for p := 64; p <= 127; p++ {
		all = append(all, p)
	}
	shuffle(&m.chance, all)
	border := pick(&m.chance, 64, 128, m.number(64, 128))
	for i, name := range m.list(m.below(6)) {
		x := api.Isr{Name: name, Category: 1, Priority: all[i]}
		if all[i] < border {
			x.Category = 2
			x.Resources = m.ids(len(c.Resources), func(id int) bool { return c.Resources[id].Kind != api.ResInternal })
			x.Messages = m.ids(len(c.Messages), anyID)
		}
		c.Isrs = append(c.Isrs, x)
	}
}

func (m *maker) alarms(c *api.Config) {
	for _, name := range m.list(m.below(4)) {
		x := api.Counter{Name: name, Max: uint32(m.number(1, api.MaxTick)), Base: uint32(m.number(1, api.MaxTick))}
		x.Min = uint32(m.number(1, int(x.Max)))
		c.Counters = append(c.Counters, x)
	}
	if len(c.Counters) == 0 {
		return
	}
	for _, name := range m.list(m.below(8)) {
		x := api.Alarm{Name: name, Counter: m.below(len(c.Counters)), Action: m.action(*c, 1, 3)}
		if k := c.Counters[x.Counter]; m.yes() {
			x.Auto = append([]int{0}, m.ids(len(c.Modes), func(id int) bool { return id > 0 })...)
			x.Time = uint32(m.number(1, int(k.Max)))
			x.Cycle = pick(&m.chance, 0, uint32(m.number(int(k.Min), int(k.Max))))
		}
		c.Alarms = append(c.Alarms, x)
	}
}

func (m *maker) action(c api.Config, least, most int) api.Action {
	a := api.Action{Kind: api.ActionKind(least + m.below(most-least+1))}
	switch a.Kind {
	case api.ActTask:
		a.Task = m.below(len(c.Tasks))
	case api.ActEvent:
		a.Task = m.below(len(c.Tasks))
		events := c.Tasks[a.Task].Events
		if len(events) == 0 {
			return m.action(c, least, most)
		}
		a.Event = pick(&m.chance, events...)
	case api.ActCallback, api.ActFlag:
		a.Name = "f" + strconv.Itoa(m.below(3))
	}
	return a
}

// places are the numbers, texts and bools of a value, those within lists too, and its lists.
func places(v reflect.Value) []reflect.Value {
	var l []reflect.Value
	var add func(v reflect.Value)
	add = func(v reflect.Value) {
		switch v.Kind() {
		case reflect.Struct:
			for i := range v.NumField() {
				add(v.Field(i))
			}
		case reflect.Slice:
			l = append(l, v)
			for i := range v.Len() {
				add(v.Index(i))
			}
		default:
			l = append(l, v)
		}
	}
	add(v)
	return l
}

// spoil turns one place of a configuration, of facts or of a look.
func (m *maker) spoil(v reflect.Value) {
	switch v.Kind() {
	case reflect.Bool:
		v.SetBool(!v.Bool())
	case reflect.String:
		v.SetString(pick(&m.chance, "", "x", "1", "z9", "a b", "n0", "ACTIVATETASK x", "a\n", "\xc3\xa9", strings.Repeat("y", 63), strings.Repeat("y", 64)))
	case reflect.Int:
		v.SetInt(pick(&m.chance, v.Int()+1, v.Int()-1, -1, -2, 0, 1, 2, 3, 63, 64, 127, 128, 1<<32))
	case reflect.Uint32, reflect.Uint64:
		v.SetUint(pick(&m.chance, v.Uint()+1, v.Uint()-1, 0, 1, 1<<31, 1<<32-1))
	case reflect.Slice:
		if n := v.Len(); n > 0 && m.yes() {
			v.Set(v.Slice(0, m.below(n)))
		} else if n > 0 {
			v.Set(reflect.Append(v, copied(v.Index(m.below(n)))))
		} else {
			v.Set(reflect.Append(v, reflect.Zero(v.Type().Elem())))
		}
	}
}

// spoilt is a copy in which one place is turned.
func spoilt[T any](m *maker, x T) T {
	x = plain(x)
	m.spoil(pick(&m.chance, places(reflect.ValueOf(&x).Elem())...))
	return x
}

func (m *maker) name() string {
	return pick(&m.chance, "a", "_", "Z9", "t0", "TASK", "NO_TASK", "EXTENDED", "ACTIVATETASK", "ISR", "n"+strconv.Itoa(m.below(99)), strings.Repeat("z", 63))
}

// facts makes facts that can be written.
func (m *maker) facts() api.Orti {
	o := api.Orti{OS: m.name()}
	for range pick(&m.chance, 0, 1, m.below(4), m.below(14)) {
		o.Tasks = append(o.Tasks, api.OrtiTask{Name: m.name(), Extended: m.yes()})
	}
	for range pick(&m.chance, 0, 1, m.below(4), m.below(14)) {
		o.Resources = append(o.Resources, api.OrtiResource{Name: m.name(), Ceiling: m.number(-1, 127)})
	}
	for range pick(&m.chance, 0, 1, m.below(4), m.below(14)) {
		action := pick(&m.chance, "ACTIVATETASK "+m.name(), "SETEVENT "+m.name()+" "+m.name(), "ALARMCALLBACK "+m.name())
		o.Alarms = append(o.Alarms, api.OrtiAlarm{Name: m.name(), Counter: m.name(), Action: action})
	}
	for range pick(&m.chance, 0, 1, m.below(4), m.below(14)) {
		o.Isrs = append(o.Isrs, api.OrtiIsr{Name: m.name(), Category: m.number(1, 2), Priority: m.number(64, 127)})
	}
	return o
}

// near is a length by chance, mostly the one that is asked.
func (m *maker) near(n int) int { return max(0, n+pick(&m.chance, 0, 0, 0, 0, 0, -1, 1, 3)) }

// look makes a look that mostly fits to facts.
func (m *maker) look(o api.Orti) api.Look {
	var l api.Look
	for range m.near(len(o.Tasks)) {
		x := api.TaskLook{State: api.TaskState(m.number(-1, 4)), Priority: m.number(-2, 130), Active: m.number(-1, 255)}
		x.Held = m.held(len(o.Resources))
		l.Tasks = append(l.Tasks, x)
	}
	for range m.near(len(o.Isrs)) {
		l.Held = append(l.Held, m.held(len(o.Resources)))
	}
	for range m.near(len(o.Alarms)) {
		l.Alarms = append(l.Alarms, api.AlarmLook{Set: m.yes(), Left: uint32(m.number(0, 1<<32-1)), Cycle: uint32(m.number(0, 1<<32-1))})
	}
	for range m.below(3) {
		l.Frames = append(l.Frames, api.Frame{Kind: api.FrameKind(m.number(0, 9)), ID: m.number(-1, 20)})
	}
	l.Requested = m.held(len(o.Isrs))
	return l
}

// held are few numbers in any order, a wrong one among them at times.
func (m *maker) held(n int) []int {
	var l []int
	for range m.below(3) {
		l = append(l, m.number(-1, n))
	}
	return l
}

// expression makes one that mostly asks for something.
func (m *maker) expression(o api.Orti) string {
	words := []string{"state", "priority", "active", "locker", "left", "cycle", "requested", "running"}
	n := pick(&m.chance, len(o.Tasks), len(o.Resources), len(o.Alarms), len(o.Isrs))
	s := "$" + pick(&m.chance, words...) + "[" + strconv.Itoa(m.below(n+1)) + "]"
	switch m.below(12) {
	case 0:
		s = "$running"
	case 1:
		s = pick(&m.chance, "0", "-1", strconv.Itoa(m.below(300)), "18446744073709551615")
	case 2:
		at := m.below(len(s))
		s = s[:at] + pick(&m.chance, "", "$", "[", "]", "0", " ", "x") + s[at+m.below(2):]
	}
	return s
}
