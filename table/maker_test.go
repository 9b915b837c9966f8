package table_test

import (
	"math"
	"reflect"
	"slices"
	"strconv"

	"tappet/api"
)

// maker makes configurations and tables by chance.
type maker struct{ chance }

func (m *maker) yes() bool { return m.below(2) == 0 }

func (m *maker) number(least, most int) int {
	return pick(&m.chance, least, most, least+m.below(most-least+1))
}

// list are n names, each another one.
func (m *maker) list(n int) []string {
	l := []string{"a", "_", "Z", "A0", "TASK", "RES_SCHEDULER"}
	for i := range n {
		l = append(l, "n"+strconv.Itoa(i))
	}
	shuffle(&m.chance, l)
	return l[:n]
}

// ids are some of n numbers, rising, to which a function does not object.
func (m *maker) ids(n int, fits func(id int) bool) []int {
	var l []int
	odds := 1 + m.below(3)
	for id := range n {
		if m.below(odds) == 0 && fits(id) {
			l = append(l, id)
		}
	}
	return l
}

// anyID objects to none.
func anyID(int) bool { return true }

// config makes a configuration that may be.
func (m *maker) config() api.Config {
	c := api.Config{CPU: "c", Modes: m.list(1 + m.below(8))}
	c.OS = api.Os{Name: "o", Startup: m.yes(), Error: m.yes(), Shutdown: m.yes(), PreTask: m.yes(), PostTask: m.yes(), Service: m.yes(), Params: m.yes(), Schedule: m.yes()}
	m.resources(&c)
	for _, name := range m.list(m.below(8)) {
		mask := pick(&m.chance, uint32(1)<<m.below(32), 3<<m.below(32), 1, 1<<31)
		c.Events = append(c.Events, api.Event{Name: name, Mask: max(mask, 1), Auto: m.yes()})
	}
	m.messages(&c)
	m.tasks(&c)
	m.isrs(&c)
	m.alarms(&c)
	for i := range c.Messages {
		if c.Messages[i].Kind != api.MsgSend {
			c.Messages[i].Action = m.action(c, 0, 4)
		}
	}
	return c
}

// resources: a linked one stands for one that came ahead of it by chance, not by its id.
func (m *maker) resources(c *api.Config) {
	names := m.list(m.below(8))
	c.Resources = make([]api.Resource, len(names))
	order := make([]int, len(names))
	for i := range order {
		order[i] = i
	}
	shuffle(&m.chance, order)
	var targets []int
	for _, id := range order {
		r := api.Resource{Name: names[id], Kind: pick(&m.chance, api.ResStandard, api.ResLinked, api.ResInternal)}
		if r.Kind == api.ResLinked && len(targets) == 0 {
			r.Kind = api.ResStandard
		}
		if r.Kind == api.ResLinked {
			r.Link = pick(&m.chance, targets...)
		}
		if r.Kind != api.ResInternal {
			targets = append(targets, id)
		}
		c.Resources[id] = r
	}
}

func (m *maker) messages(c *api.Config) {
	var sent []int
	for id, name := range m.list(m.below(10)) {
		if m.below(3) == 0 {
			sent = append(sent, id)
		}
		c.Messages = append(c.Messages, api.Message{Name: name, Kind: api.MsgSend, Length: pick(&m.chance, 1, 2, 4, 8)})
	}
	for id := range c.Messages {
		if len(sent) == 0 || slices.Contains(sent, id) {
			continue
		}
		x := api.Message{Name: c.Messages[id].Name, Kind: api.MsgQueued, From: pick(&m.chance, sent...), Queue: m.number(1, 16)}
		if m.yes() {
			most := min(1<<(8*min(c.Messages[x.From].Length, 7))-1, api.MaxNumber)
			x.Kind, x.Queue, x.Init = api.MsgUnqueued, 0, uint64(m.number(0, most))
		}
		c.Messages[id] = x
	}
}

func (m *maker) tasks(c *api.Config) {
	top := pick(&m.chance, 1, 3, 63)
	for _, name := range m.list(1 + m.below(6)) {
		x := api.Task{Name: name, Priority: m.number(0, top), Full: m.yes(), Activation: pick(&m.chance, 1, m.number(1, 255)), Auto: m.ids(len(c.Modes), anyID), Messages: m.ids(len(c.Messages), anyID)}
		room := 1
		x.Resources = m.ids(len(c.Resources), func(id int) bool {
			if c.Resources[id].Kind == api.ResInternal {
				room--
			}
			return c.Resources[id].Kind != api.ResInternal || room == 0
		})
		if m.yes() {
			var taken uint32
			x.Events = m.ids(len(c.Events), func(id int) bool {
				fits := taken&c.Events[id].Mask == 0
				if fits {
					taken |= c.Events[id].Mask
				}
				return fits
			})
		}
		if len(x.Events) > 0 {
			x.Activation = 1
		}
		c.Tasks = append(c.Tasks, x)
	}
}

func (m *maker) isrs(c *api.Config) {
	var all []int
	for p := 64; p <= 127; p++ {
		all = append(all, p)
	}
	shuffle(&m.chance, all)
	border := pick(&m.chance, 64, 128, m.number(64, 128))
	for i, name := range m.list(m.below(6)) {
		x := api.Isr{Name: name, Category: 1, Priority: all[i]}
		if all[i] < border {
			x.Category = 2
			x.Resources = m.ids(len(c.Resources), func(id int) bool { return c.Resources[id].Kind != api.ResInternal })
			x.Messages = m.ids(len(c.Messages), anyID)
		}
		c.Isrs = append(c.Isrs, x)
	}
}

func (m *maker) alarms(c *api.Config) {
	for _, name := range m.list(m.below(4)) {
		x := api.Counter{Name: name, Max: uint32(m.number(1, api.MaxTick)), Base: uint32(m.number(1, api.MaxTick))}
		x.Min = uint32(m.number(1, int(x.Max)))
		c.Counters = append(c.Counters, x)
	}
	if len(c.Counters) == 0 {
		return
	}
	for _, name := range m.list(m.below(8)) {
		x := api.Alarm{Name: name, Counter: m.below(len(c.Counters)), Action: m.action(*c, 1, 3)}
		if k := c.Counters[x.Counter]; m.yes() {
			x.Auto = append([]int{0}, m.ids(len(c.Modes), func(id int) bool { return id > 0 })...)
			x.Time = uint32(m.number(1, int(k.Max)))
			x.Cycle = pick(&m.chance, 0, uint32(m.number(int(k.Min), int(k.Max))))
		}
		c.Alarms = append(c.Alarms, x)
	}
}

func (m *maker) action(c api.Config, least, most int) api.Action {
	a := api.Action{Kind: api.ActionKind(least + m.below(most-least+1))}
	switch a.Kind {
	case api.ActTask:
		a.Task = m.below(len(c.Tasks))
	case api.ActEvent:
		a.Task = m.below(len(c.Tasks))
		events := c.Tasks[a.Task].Events
		if len(events) == 0 {
			return m.action(c, least, most)
		}
		a.Event = pick(&m.chance, events...)
	case api.ActCallback, api.ActFlag:
		a.Name = "f" + strconv.Itoa(m.below(3))
	}
	return a
}

// places are the numbers, texts and bools of a value, those within lists too, and its lists.
func places(v reflect.Value) []reflect.Value {
	var l []reflect.Value
	var add func(v reflect.Value)
	add = func(v reflect.Value) {
		switch v.Kind() {
		case reflect.Struct:
			for i := range v.NumField() {
				add(v.Field(i))
			}
		case reflect.Slice:
			l = append(l, v)
			for i := range v.Len() {
				add(v.Index(i))
			}
		default:
			l = append(l, v)
		}
	}
	add(v)
	return l
}

// ints and uints are values to be tried at a place, beside others near the one that is there.
func ints(n int64) []int64 {
	return []int64{n + 1, n - 1, n + 1, n - 1, n + 2, n - 2, n + 1<<32, -1, -2, 0, 1, 2, 3, 4, 5, 6, 7, 8, 9, 16, 17, 62, 63, 64, 65, 79, 80, 81, 126, 127, 128, 255, 256, 257, 1 << 31, 1 << 32, math.MinInt64, math.MaxInt64}
}

func uints(n uint64) []uint64 {
	return []uint64{n + 1, n - 1, n + 1, n - 1, n + 1<<32, n << 1, n >> 1, n << 8, 0, 1, 2, 3, 4, 5, 7, 8, 255, 256, 65535, 65536, 1<<31 - 1, 1 << 31, 1<<32 - 1, 1 << 32, 1<<64 - 1}
}

// spoil turns one place of a configuration or of tables; other is any place of them, too.
func (m *maker) spoil(v, other reflect.Value) {
	alike := v.Kind() == other.Kind() && m.below(3) == 0
	switch v.Kind() {
	case reflect.Bool:
		v.SetBool(!v.Bool())
	case reflect.String:
		v.SetString(pick(&m.chance, "", "x", "1", "z9", "a b", "n0"))
	case reflect.Int:
		v.SetInt(pick(&m.chance, ints(v.Int())...))
		if alike {
			v.SetInt(other.Int())
		}
	case reflect.Uint32, reflect.Uint64:
		v.SetUint(pick(&m.chance, uints(v.Uint())...))
		if alike {
			v.SetUint(other.Uint())
		}
	case reflect.Slice:
		m.spoilList(v)
	}
}

// spoilList makes a list longer, shorter, or another one in its order.
func (m *maker) spoilList(l reflect.Value) {
	if l.Len() == 0 {
		l.Set(reflect.Append(l, reflect.Zero(l.Type().Elem())))
		return
	}
	double := func(i int) { l.Set(reflect.Append(l, copied(l.Index(i)))) }
	i, j := m.below(l.Len()), m.below(l.Len())
	switch m.below(6) {
	case 0:
		double(i)
	case 1:
		l.Set(l.Slice(0, i))
	case 2:
		l.Set(l.Slice(i, l.Len()))
	case 3:
		reflect.Swapper(l.Interface())(i, j)
	case 4:
		for n := pick(&m.chance, 9, 17, 33, 65, 66, 257); l.Len() < n; {
			double(i)
		}
	case 5:
		if ids, ok := l.Interface().([]int); ok {
			ids = append(slices.Clone(ids), m.below(9), pick(&m.chance, -1, m.below(9), m.below(9)))
			slices.Sort(ids)
			l.Set(reflect.ValueOf(slices.Compact(ids)))
		} else {
			double(i)
		}
	}
}

func (m *maker) spoilConfig(c *api.Config) {
	l := places(reflect.ValueOf(c).Elem())
	m.spoil(pick(&m.chance, l...), pick(&m.chance, l...))
}

func (m *maker) spoilTables(x *api.Tables) {
	l := places(reflect.ValueOf(x).Elem())
	m.spoil(pick(&m.chance, l...), pick(&m.chance, l...))
}
