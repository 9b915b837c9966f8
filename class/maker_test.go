package class_test

import (
	"reflect"
	"slices"
	"strconv"

	"tappet/api"
)

// maker makes configurations by chance.
type maker struct{ chance }

func (m *maker) yes() bool { return m.below(2) == 0 }

func (m *maker) number(least, most int) int {
	return pick(&m.chance, least, most, least+m.below(most-least+1))
}

// list are n names, each another one; those of two kinds are often the same.
func (m *maker) list(n int) []string {
	l := goodNames()
	for i := range n {
		l = append(l, "n"+strconv.Itoa(i))
	}
	shuffle(&m.chance, l)
	return l[:n]
}

// ids are some of n numbers, rising, to which a function does not object.
func (m *maker) ids(n int, fits func(id int) bool) []int {
	var l []int
	for id := range n {
		if m.yes() && fits(id) {
			l = append(l, id)
		}
	}
	return l
}

// anyID objects to none.
func anyID(int) bool { return true }

// config makes a configuration that may be.
func (m *maker) config() api.Config {
	c := api.Config{CPU: pick(&m.chance, goodNames()...), Modes: m.list(1 + m.below(8))}
	c.OS = api.Os{Name: pick(&m.chance, goodNames()...), Startup: m.yes(), Error: m.yes(), Shutdown: m.yes(), PreTask: m.yes(), PostTask: m.yes(), Service: m.yes(), Params: m.yes(), Schedule: m.yes()}
	m.resources(&c)
	for _, name := range m.list(m.below(8)) {
		mask := pick(&m.chance, uint32(1)<<m.below(32), 3<<m.below(32), 1, 1<<31)
		c.Events = append(c.Events, api.Event{Name: name, Mask: max(mask, 1), Auto: m.yes()})
	}
	m.messages(&c)
	m.tasks(&c)
	m.isrs(&c)
	m.alarms(&c)
	for i := range c.Messages {
		if c.Messages[i].Kind != api.MsgSend {
			c.Messages[i].Action = m.action(c, 0, 4)
		}
	}
	return c
}

// resources adds resources; a linked one stands for one that came ahead of it by chance, not by its id.
func (m *maker) resources(c *api.Config) {
	names := m.list(m.below(8))
	c.Resources = make([]api.Resource, len(names))
	order := make([]int, len(names))
	for i := range order {
		order[i] = i
	}
	shuffle(&m.chance, order)
	var ends []int
	for _, id := range order {
		r := api.Resource{Name: names[id], Kind: pick(&m.chance, api.ResStandard, api.ResLinked, api.ResInternal)}
		if r.Kind == api.ResLinked && len(ends) == 0 {
			r.Kind = api.ResStandard
		}
		if r.Kind == api.ResLinked {
			r.Link = pick(&m.chance, ends...)
		}
		if r.Kind != api.ResInternal {
			ends = append(ends, id)
		}
		c.Resources[id] = r
	}
}

func (m *maker) messages(c *api.Config) {
	for _, name := range m.list(m.below(8)) {
		c.Messages = append(c.Messages, api.Message{Name: name, Kind: api.MsgSend, Length: pick(&m.chance, 1, 2, 4, 8)})
	}
	if len(c.Messages) == 0 {
		return
	}
	stays := m.below(len(c.Messages))
	for i := range c.Messages {
		if i == stays || m.below(4) == 0 {
			continue
		}
		x := api.Message{Name: c.Messages[i].Name, Kind: api.MsgQueued, From: stays, Queue: m.number(1, 16)}
		if m.yes() {
			most := min(1<<(8*min(c.Messages[stays].Length, 7))-1, api.MaxNumber)
			x.Kind, x.Queue, x.Init = api.MsgUnqueued, 0, uint64(m.number(0, most))
		}
		c.Messages[i] = x
	}
}

func (m *maker) tasks(c *api.Config) {
	for _, name := range m.list(1 + m.below(5)) {
		x := api.Task{Name: name, Priority: m.number(0, 63), Full: m.yes(), Activation: pick(&m.chance, 1, 1, 1, m.number(1, 255)), Auto: m.ids(len(c.Modes), anyID), Messages: m.ids(len(c.Messages), anyID)}
		internal := false
		x.Resources = m.ids(len(c.Resources), func(id int) bool {
			own := c.Resources[id].Kind == api.ResInternal
			fits := !own || !internal
			internal = internal || own
			return fits
		})
		if m.yes() {
			var taken uint32
			x.Events = m.ids(len(c.Events), func(id int) bool {
				fits := taken&c.Events[id].Mask == 0
				if fits {
					taken |= c.Events[id].Mask
				}
				return fits
			})
		}
		if len(x.Events) > 0 {
			x.Activation = 1
		}
		c.Tasks = append(c.Tasks, x)
	}
}

func (m *maker) isrs(c *api.Config) {
	var all []int
	for p := 64; p <= 127; p++ {
		all = append(all, p)
	}
	shuffle(&m.chance, all)
	border := pick(&m.chance, 64, 128, m.number(64, 128))
	for i, name := range m.list(m.below(6)) {
		x := api.Isr{Name: name, Category: 1, Priority: all[i]}
		if all[i] < border {
			x.Category = 2
			x.Resources = m.ids(len(c.Resources), func(id int) bool { return c.Resources[id].Kind != api.ResInternal })
			x.Messages = m.ids(len(c.Messages), anyID)
		}
		c.Isrs = append(c.Isrs, x)
	}
}

func (m *maker) alarms(c *api.Config) {
	for _, name := range m.list(m.below(4)) {
		x := api.Counter{Name: name, Max: uint32(m.number(1, api.MaxTick)), Base: uint32(m.number(1, api.MaxTick))}
		x.Min = uint32(m.number(1, int(x.Max)))
		c.Counters = append(c.Counters, x)
	}
	if len(c.Counters) == 0 {
		return
	}
	for _, name := range m.list(m.below(6)) {
		x := api.Alarm{Name: name, Counter: m.below(len(c.Counters)), Action: m.action(*c, 1, 3), Auto: m.ids(len(c.Modes), anyID)}
		if k := c.Counters[x.Counter]; len(x.Auto) > 0 {
			x.Time = uint32(m.number(1, int(k.Max)))
			x.Cycle = pick(&m.chance, 0, uint32(m.number(int(k.Min), int(k.Max))))
		}
		c.Alarms = append(c.Alarms, x)
	}
}

func (m *maker) action(c api.Config, least, most int) api.Action {
	a := api.Action{Kind: api.ActionKind(least + m.below(most-least+1))}
	switch a.Kind {
	case api.ActTask:
		a.Task = m.below(len(c.Tasks))
	case api.ActEvent:
		a.Task = m.below(len(c.Tasks))
		events := c.Tasks[a.Task].Events
		if len(events) == 0 {
			return m.action(c, least, most)
		}
		a.Event = pick(&m.chance, events...)
	case api.ActCallback, api.ActFlag:
		a.Name = pick(&m.chance, goodNames()...)
	}
	return a
}

// places are the numbers, texts and bools of a value, and its lists of numbers.
func places(v reflect.Value) []reflect.Value {
	var l []reflect.Value
	var add func(v reflect.Value)
	add = func(v reflect.Value) {
		switch {
		case v.Kind() == reflect.Struct:
			for i := range v.NumField() {
				add(v.Field(i))
			}
		case v.Kind() == reflect.Slice && v.Type().Elem().Kind() != reflect.Int:
			for i := range v.Len() {
				add(v.Index(i))
			}
		default:
			l = append(l, v)
		}
	}
	add(v)
	return l
}

// spoil turns one thing of a configuration, which may not be then.
func (m *maker) spoil(c *api.Config) {
	if m.below(8) == 0 {
		m.spoilList(reflect.ValueOf(c).Elem().Field(2 + m.below(8)))
		return
	}
	l := places(reflect.ValueOf(c).Elem())
	v := l[m.below(len(l))]
	other := l[m.below(len(l))]
	switch v.Kind() {
	case reflect.Bool:
		v.SetBool(!v.Bool())
	case reflect.String:
		v.SetString(pick(&m.chance, append(goodNames(), badNames()...)...))
		if other.Kind() == reflect.String && m.yes() {
			v.SetString(other.String())
		}
	case reflect.Int:
		n := v.Int()
		v.SetInt(pick(&m.chance, n+1, n-1, n+1, n-1, n+1<<32, -1, 0, 1, 2, 3, 4, 5, 8, 16, 17, 63, 64, 127, 128, 255, 256, 1<<31, 1<<62))
		if other.Kind() == reflect.Int && m.yes() {
			v.SetInt(other.Int())
		}
	case reflect.Uint32, reflect.Uint64:
		n := v.Uint()
		v.SetUint(pick(&m.chance, n+1, n-1, n+1, n-1, n+1<<32, n<<1, n<<8, 0, 1, 255, 256, 65535, 65536, 1<<31-1, 1<<31, 1<<32-1, 1<<32))
	case reflect.Slice:
		v.Set(reflect.ValueOf(m.spoilt(slices.Clone(v.Interface().([]int)))))
	}
}

func (m *maker) spoilt(ids []int) []int {
	switch m.below(5) {
	case 0:
		shuffle(&m.chance, ids)
	case 1:
		if len(ids) > 0 {
			ids = append(ids, ids[m.below(len(ids))])
		}
		slices.Sort(ids)
	case 2:
		ids = append(ids, pick(&m.chance, -1, 0, 1, 2, 3, 9, 1<<32))
	case 3:
		ids = ids[:m.below(len(ids)+1)]
	case 4:
		ids = append(ids, m.below(8))
		slices.Sort(ids)
		ids = slices.Compact(ids)
	}
	return ids
}

// spoilList makes a list of objects longer, shorter, or another one in its order.
func (m *maker) spoilList(l reflect.Value) {
	if l.Len() == 0 {
		l.Set(reflect.Append(l, reflect.Zero(l.Type().Elem())))
		return
	}
	i, j := m.below(l.Len()), m.below(l.Len())
	switch m.below(5) {
	case 0:
		l.Set(reflect.Append(l, reflect.ValueOf(plain(l.Index(i).Interface()))))
	case 1:
		l.Set(l.Slice(0, i))
	case 2:
		l.Set(l.Slice(i, l.Len()))
	case 3:
		reflect.Swapper(l.Interface())(i, j)
	case 4:
		for n := pick(&m.chance, 9, 17, 33, 65, 257); l.Len() < n; {
			l.Set(reflect.Append(l, reflect.ValueOf(plain(l.Index(i).Interface()))))
		}
	}
}
