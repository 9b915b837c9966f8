package names_test

import (
	"reflect"
	"slices"

	"tappet/api"
)

// maker makes configurations and sheets by chance.
type maker struct{ chance }

func (m *maker) yes() bool { return m.below(2) == 0 }

// list are n names, each another one; those of two kinds are often the same.
func (m *maker) list(n int) []string {
	l := append(goodNames(), "b", "C", "d_1")
	shuffle(&m.chance, l)
	return l[:n]
}

// ids are some of n numbers, rising.
func (m *maker) ids(n int) []int {
	var l []int
	for id := range n {
		if m.yes() {
			l = append(l, id)
		}
	}
	return l
}

func (m *maker) action(c api.Config, kinds ...api.ActionKind) api.Action {
	a := api.Action{Kind: pick(&m.chance, kinds...)}
	switch {
	case a.Kind == api.ActCallback || a.Kind == api.ActFlag:
		a.Name = pick(&m.chance, goodStrings()...)
	case a.Kind == api.ActNone:
	case len(c.Tasks) == 0:
		return m.action(c, kinds...)
	case a.Kind == api.ActTask:
		a.Task = m.below(len(c.Tasks))
	case len(c.Events) == 0:
		return m.action(c, kinds...)
	default:
		a.Task, a.Event = m.below(len(c.Tasks)), m.below(len(c.Events))
	}
	return a
}

func (m *maker) number(lo, hi int) int {
	return pick(&m.chance, lo, hi, lo+m.below(hi-lo+1))
}

// config makes a configuration that has a sheet.
func (m *maker) config() api.Config {
	c := api.Config{CPU: pick(&m.chance, goodNames()...), Modes: m.list(m.below(4))}
	c.OS = api.Os{Name: pick(&m.chance, goodNames()...), Startup: m.yes(), Error: m.yes(), Shutdown: m.yes(), PreTask: m.yes(), PostTask: m.yes(), Service: m.yes(), Params: m.yes(), Schedule: m.yes()}
	for _, name := range m.list(m.below(5)) {
		c.Resources = append(c.Resources, api.Resource{Name: name})
	}
	for i := range c.Resources {
		r := &c.Resources[i]
		r.Kind = pick(&m.chance, api.ResStandard, api.ResLinked, api.ResInternal)
		if r.Kind == api.ResLinked {
			r.Link = m.below(len(c.Resources))
		}
	}
	for _, name := range m.list(m.below(3)) {
		c.Counters = append(c.Counters, api.Counter{Name: name, Max: uint32(m.number(1, api.MaxTick)), Base: uint32(m.number(1, api.MaxTick)), Min: uint32(m.number(1, api.MaxTick))})
	}
	for _, name := range m.list(m.below(8)) {
		c.Events = append(c.Events, api.Event{Name: name, Auto: m.below(3) > 0})
		if e := last(c.Events); !e.Auto {
			e.Mask = pick(&m.chance, 1, 2, 3, 4, 1<<31, 0xfffffff0, 0x0f, uint32(1+m.below(100)))
		}
	}
	sent := m.below(3)
	for i, name := range m.list(sent + sent*m.below(3)) {
		c.Messages = append(c.Messages, api.Message{Name: name, Kind: api.MsgSend})
		if i < sent {
			last(c.Messages).Length = pick(&m.chance, 1, 2, 4, 8)
		} else {
			*last(c.Messages) = m.received(name, sent)
		}
	}
	m.users(&c)
	masks, none := masksOf(c.Events, c.Tasks)
	if none >= 0 {
		return m.config()
	}
	for i := range c.Events {
		c.Events[i].Mask = masks[i]
	}
	return c
}

func (m *maker) received(name string, sent int) api.Message {
	x := api.Message{Name: name, Kind: api.MsgQueued, From: m.below(sent)}
	if m.yes() {
		x.Kind, x.Init = api.MsgUnqueued, uint64(m.number(0, api.MaxNumber))
	} else {
		x.Queue = m.number(1, 16)
	}
	return x
}

// users adds what refers to all else.
func (m *maker) users(c *api.Config) {
	for _, name := range m.list(m.below(5)) {
		c.Tasks = append(c.Tasks, api.Task{Name: name, Priority: m.number(0, 63), Full: m.yes(), Activation: m.number(1, 255),
			Auto: m.ids(len(c.Modes)), Resources: m.ids(len(c.Resources)), Events: m.ids(len(c.Events)), Messages: m.ids(len(c.Messages))})
	}
	for _, name := range m.list(m.below(3)) {
		c.Isrs = append(c.Isrs, api.Isr{Name: name, Category: 1 + m.below(2), Priority: m.number(64, 127), Resources: m.ids(len(c.Resources)), Messages: m.ids(len(c.Messages))})
	}
	if len(c.Counters) > 0 {
		for _, name := range m.list(m.below(5)) {
			a := api.Alarm{Name: name, Counter: m.below(len(c.Counters)), Action: m.action(*c, api.ActTask, api.ActEvent, api.ActCallback), Auto: m.ids(len(c.Modes))}
			if len(a.Auto) > 0 {
				a.Time, a.Cycle = uint32(m.number(0, api.MaxTick)), uint32(m.number(0, api.MaxTick))
			}
			c.Alarms = append(c.Alarms, a)
		}
	}
	for i := range c.Messages {
		c.Messages[i].Action = m.action(*c, api.ActNone, api.ActTask, api.ActEvent, api.ActCallback, api.ActFlag)
	}
}

// places are the numbers, texts and bools of a value, and its lists of numbers.
func places(v reflect.Value) []reflect.Value {
	var l []reflect.Value
	switch v.Kind() {
	case reflect.Struct:
		for i := range v.NumField() {
			l = append(l, places(v.Field(i))...)
		}
	case reflect.Slice:
		if v.Type().Elem().Kind() == reflect.Int {
			l = append(l, v)
		}
		for i := range v.Len() {
			l = append(l, places(v.Index(i))...)
		}
	default:
		l = append(l, v)
	}
	return l
}

// spoil turns one thing of a configuration, which may have no sheet then.
func (m *maker) spoil(c *api.Config) {
	l := places(reflect.ValueOf(c).Elem())
	v := l[m.below(len(l))]
	other := l[m.below(len(l))]
	switch v.Kind() {
	case reflect.Bool:
		v.SetBool(!v.Bool())
	case reflect.String:
		v.SetString(pick(&m.chance, append(append(goodNames(), badNames()...), append(goodStrings(), badStrings()...)...)...))
		if other.Kind() == reflect.String && m.yes() {
			v.SetString(other.String())
		}
	case reflect.Int:
		v.SetInt(pick(&m.chance, v.Int()+1, v.Int()-1, v.Int()+1<<32, -1, 0, 1, 2, 3, 4, 8, 16, 17, 63, 64, 127, 128, 255, 256, 1<<31, 1<<62))
	case reflect.Uint32, reflect.Uint64:
		v.SetUint(pick(&m.chance, v.Uint()+1, v.Uint()-1, v.Uint()+1<<32, v.Uint()<<1, 0, 1, 1<<31-1, 1<<31, 1<<32-1, 1<<32))
	case reflect.Slice:
		ids := slices.Clone(v.Interface().([]int))
		v.Set(reflect.ValueOf(m.spoilt(ids)))
	}
}

func (m *maker) spoilt(ids []int) []int {
	switch m.below(4) {
	case 0:
		shuffle(&m.chance, ids)
	case 1:
		if len(ids) > 0 {
			ids = append(ids, ids[m.below(len(ids))])
		}
		slices.Sort(ids)
	case 2:
		ids = append(ids, pick(&m.chance, -1, 0, 1, 2, 3, 9, 1<<32))
	case 3:
		ids = ids[:m.below(len(ids)+1)]
	}
	return ids
}

// mixed is a sheet with its items in another order, in which those of one kind follow one another as they did.
func (m *maker) mixed(s api.Sheet) api.Sheet {
	by := map[string][]api.Item{}
	var kinds []string
	for _, item := range s.Items {
		by[item.Kind] = append(by[item.Kind], item)
		kinds = append(kinds, item.Kind)
	}
	shuffle(&m.chance, kinds)
	s.Items = nil
	for _, kind := range kinds {
		s.Items = append(s.Items, by[kind][0])
		by[kind] = by[kind][1:]
	}
	return s
}

// loosen lays refs of one name in another order, and tells an AUTOSTART without modes in the other way, here and there.
func (m *maker) loosen(s *api.Sheet) {
	for i := range s.Items {
		l := s.Items[i].Entries
		m.stir(l)
		for j := range l {
			if l[j].Name == "AUTOSTART" && l[j].Word == "FALSE" && m.yes() {
				l[j].Word = "TRUE"
				if s.Items[i].Kind == "ALARM" {
					l[j].Params = []api.Entry{{Name: "ALARMTIME", Number: uint32(m.below(9))}, {Name: "CYCLETIME", Number: uint32(m.below(9))}}
				}
			}
			m.stir(l[j].Params)
		}
	}
}

// stir shuffles entries among those of their name.
func (m *maker) stir(l []api.Entry) {
	for from := 0; from < len(l); {
		to := from + 1
		for to < len(l) && l[to].Name == l[from].Name {
			to++
		}
		shuffle(&m.chance, l[from:to])
		from = to
	}
}

// spoilSheet turns one thing of a sheet, most often so that schema.Write takes it still.
func (m *maker) spoilSheet(s *api.Sheet) {
	if len(s.Items) == 0 {
		return
	}
	item := &s.Items[m.below(len(s.Items))]
	if item.Kind == "OS" && m.below(3) == 0 {
		item.Entries[0].Word = "STANDARD"
		return
	}
	l := &item.Entries
	if len(*l) == 0 || m.below(6) == 0 {
		m.spoilItem(s, item)
		return
	}
	e := &(*l)[m.below(len(*l))]
	if len(e.Params) > 0 && m.yes() {
		l = &e.Params
		e = &(*l)[m.below(len(*l))]
	}
	switch ref := kindOfRef(e.Name) != ""; {
	case ref && m.yes():
		e.Word = pick(&m.chance, goodNames()...)
	case ref:
		*l = slices.Insert(*l, slices.Index(namesIn(*l), e.Name), *e)
	case e.Name == "MASK":
		*e = pick(&m.chance, api.Entry{Name: "MASK", Auto: true}, api.Entry{Name: "MASK", Number: 1<<32 - 1}, api.Entry{Name: "MASK", Number: 1<<32 - 2}, api.Entry{Name: "MASK"})
	case m.below(4) == 0:
		e.Word += "X"
	}
}

func namesIn(l []api.Entry) []string {
	var out []string
	for _, e := range l {
		out = append(out, e.Name)
	}
	return out
}

func (m *maker) spoilItem(s *api.Sheet, item *api.Item) {
	switch m.below(4) {
	case 0:
		item.Name = pick(&m.chance, append(goodNames(), s.Items[m.below(len(s.Items))].Name, "1")...)
	case 1:
		s.Items = append(s.Items, s.Items[m.below(len(s.Items))])
	case 2:
		i := m.below(len(s.Items))
		s.Items = slices.Delete(s.Items, i, i+1)
	case 3:
		i, j := m.below(len(s.Items)), m.below(len(s.Items))
		s.Items[i], s.Items[j] = s.Items[j], s.Items[i]
	}
}
