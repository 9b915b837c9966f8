package table_test

import (
	"math"
	"reflect"
	"strconv"
	"testing"

	"tappet/api"
	"tappet/class"
	"tappet/table"
)

// agrees holds Check against the second reading of the chapter, of which it answers what is not so.
func agrees(t *testing.T, what string, x api.Tables) []string {
	t.Helper()
	l := faultsOf(x)
	if len(l) == 0 {
		taken(t, what, x)
	} else if e := table.Check(x); e != api.ErrTables {
		t.Errorf("%q: Check: %d, with %s: %s", what, e, short(l), short(x))
	}
	return l
}

// P9.1, P9.3: configurations made by chance: their tables are as the chapter tells, Check takes them, and the sums of Capacities and of Activations are one.
func TestMade(t *testing.T) {
	m := &maker{1}
	for range 5000 {
		c := m.config()
		makes(t, "made", c, tablesOf(c))
		x := made(t, "made", c)
		capacities, activations := 0, 0
		for _, r := range x.Rings {
			capacities += r.Capacity
		}
		for _, task := range c.Tasks {
			activations += task.Activation
		}
		equal(t, "sums", capacities, activations)
		if l := agrees(t, "made", x); len(l) > 0 {
			t.Errorf("made %s: %s", short(l), short(x))
		}
		if t.Failed() {
			return
		}
	}
}

// P9.1: configurations in which something was turned by chance: tables are made just of those that may be.
func TestSpoiltConfigs(t *testing.T) {
	m := &maker{2}
	met := map[bool]int{}
	for range 6000 {
		c := m.config()
		for range 1 + m.below(2) {
			m.spoilConfig(&c)
		}
		kept := plain(c)
		mayBe := class.Check(c) == api.Verdict{}
		met[mayBe]++
		if mayBe {
			makes(t, "turned", c, tablesOf(c))
		} else {
			refused(t, "turned", c)
		}
		if !same(kept, c) {
			t.Errorf("changed: %s, not %s", short(c), short(kept))
		}
		if t.Failed() {
			return
		}
	}
	if met[true] < 500 || met[false] < 500 {
		t.Errorf("met %v", met)
	}
}

// rename gives every object of a configuration, and every routine and flag, another name.
func rename(c *api.Config, name func() string) {
	c.CPU, c.OS.Name = name(), name()
	for i := range c.Modes {
		c.Modes[i] = name()
	}
	for i := range c.Tasks {
		c.Tasks[i].Name = name()
	}
	for i := range c.Resources {
		c.Resources[i].Name = name()
	}
	for i := range c.Events {
		c.Events[i].Name = name()
	}
	for i := range c.Counters {
		c.Counters[i].Name = name()
	}
	for i := range c.Isrs {
		c.Isrs[i].Name = name()
	}
	for i := range c.Alarms {
		c.Alarms[i].Name = name()
		if c.Alarms[i].Action.Name != "" {
			c.Alarms[i].Action.Name = name()
		}
	}
	for i := range c.Messages {
		c.Messages[i].Name = name()
		if c.Messages[i].Action.Name != "" {
			c.Messages[i].Action.Name = name()
		}
	}
}

// P9.3: two configurations that differ in names alone have the same tables.
func TestNamesAlone(t *testing.T) {
	m := &maker{3}
	for n := range 1500 {
		c := m.config()
		if n == 0 {
			c = whole()
		}
		d, at := plain(c), 0
		first := pick(&m.chance, "x", "_", "Z", "z_9_", "TASK")
		rename(&d, func() string {
			at += 1 + m.below(3)
			return first + strconv.Itoa(at)
		})
		makes(t, "renamed", d, made(t, "made", c))
		if t.Failed() {
			return
		}
	}
}

// P9.2: tables in which something was turned by chance; every thing that is asked is among those that are not so, alone.
func TestSpoiltTables(t *testing.T) {
	m := &maker{4}
	met := map[string]int{}
	for n := range 30000 {
		x := wholeTables()
		if n%3 == 0 {
			x = made(t, "made", m.config())
		}
		for range 1 + m.below(8)/7 {
			m.spoilTables(&x)
		}
		if m.yes() {
			mend(&x)
		}
		kept := x
		if n%10 == 0 {
			kept = plain(x)
		}
		l := agrees(t, "turned", x)
		if len(l) == 0 {
			met["taken"]++
		}
		if len(l) == 1 {
			met[l[0]]++
		}
		if n%10 == 0 && !same(kept, x) {
			t.Errorf("changed: %s, not %s", short(x), short(kept))
		}
		if t.Failed() {
			return
		}
	}
	// What is not met alone by one turn stands in TestEachAlone.
	for _, rule := range append(rules(), "taken") {
		if met[rule] < 3 && eachAlone()[rule] == nil {
			t.Errorf("%q: met alone only %d times", rule, met[rule])
		}
	}
}

// eachAlone are turns of the ordinary tables behind which just that one thing is not so; chance does not find them alone.
func eachAlone() map[string]func(x *api.Tables) {
	return map[string]func(x *api.Tables){
		"no task": func(x *api.Tables) { *x = api.Tables{Modes: 1} },
		"too many ISRs": func(x *api.Tables) {
			x.Isrs = nil
			for p := range 33 {
				x.Isrs = append(x.Isrs, api.IsrRow{Category: 2, Priority: 64 + p})
			}
		},
		"Ring Priority":                             func(x *api.Tables) { shelves(x, 64) },
		"Rings fall":                                func(x *api.Tables) { x.Rings = append(x.Rings, x.Rings[2]) },
		"Ring of no task":                           func(x *api.Tables) { shelves(x, 9); x.Rings = append(x.Rings, api.RingRow{Priority: 8}) },
		"Isr Own has a ceiling below":               func(x *api.Tables) { x.Isrs[0].Own = []int{6} },
		"Message Init":                              func(x *api.Tables) { x.Messages[0].Init = 1 << 32 },
		"Message From is not sent":                  func(x *api.Tables) { x.Messages[6].From = 0 },
		"Message Kind":                              func(x *api.Tables) { x.Messages[6].Kind = 4 },
		"Task Limit with Mask":                      func(x *api.Tables) { x.Tasks[2].Limit = 2 },
		"Message Queue of an unqueued one":          func(x *api.Tables) { x.Messages[6].Queue = 1 },
		"Isr Own of category 1":                     func(x *api.Tables) { x.Isrs[3].Own = []int{0}; x.Resources[0].Ceiling = 127 },
		"Task Own is internal":                      func(x *api.Tables) { x.Tasks[3].Own = []int{4} },
		"Isr Own is internal":                       func(x *api.Tables) { x.Isrs[0].Own = []int{4}; x.Resources[4].Ceiling = 127 },
		"Counter Min above Max":                     func(x *api.Tables) { x.Counters[0].Min = 2; x.Alarms[0].Cycle = 0 },
		"sent Message action's Kind":                func(x *api.Tables) { x.Messages[1].Action.Kind = 4 },
		"Alarm action's Mask is 0":                  func(x *api.Tables) { x.Alarms[1].Action.Mask = 0 },
		"Message action's Mask is 0":                func(x *api.Tables) { x.Messages[2].Action.Mask = 0 },
		"Message Length of a received one":          func(x *api.Tables) { x.Messages[2].Length = 1 },
		"Message Init beyond the Length":            func(x *api.Tables) { x.Messages[3].Init = 256 },
		"Isr of category 1 below one of category 2": func(x *api.Tables) { x.Isrs[1].Priority = 79 },
	}
}

// P9.2: things that are not so, each alone.
func TestEachAlone(t *testing.T) {
	for rule, turn := range eachAlone() {
		x := reshaped(turn)
		if l := agrees(t, rule, x); len(l) != 1 || l[0] != rule {
			t.Errorf("%q: %s: %s", rule, short(l), short(x))
		}
	}
}

// P9.2: every place of tables, with values at the edges there, the rest made right again or not.
func TestEveryPlace(t *testing.T) {
	m := &maker{5}
	bases := []api.Tables{wholeTables(), smallTables()}
	for range 6 {
		bases = append(bases, plain(made(t, "made", m.config())))
	}
	for _, base := range bases {
		for i := range places(reflect.ValueOf(&base).Elem()) {
			for n := 0; ; n++ {
				x := plain(base)
				if !turn(places(reflect.ValueOf(&x).Elem())[i], n) {
					break
				}
				agrees(t, "a place", x)
				mend(&x)
				agrees(t, "a place, mended", x)
			}
			if t.Failed() {
				return
			}
		}
	}
}

// turn lays the n-th of the values to be tried into a place; false: there are no more.
func turn(v reflect.Value, n int) bool {
	switch v.Kind() {
	case reflect.Bool:
		v.SetBool(!v.Bool())
		return n < 1
	case reflect.Int:
		l := ints(v.Int())
		v.SetInt(l[n%len(l)])
		return n < len(l)
	case reflect.Uint32, reflect.Uint64:
		l := uints(v.Uint())
		v.SetUint(l[n%len(l)])
		return n < len(l)
	}
	return turnList(v, n)
}

// turnList leaves out an element, doubles it, or puts it first.
func turnList(v reflect.Value, n int) bool {
	if n >= 3*v.Len() {
		return false
	}
	i := n / 3
	x := copied(v.Index(i))
	switch n % 3 {
	case 0:
		v.Set(reflect.AppendSlice(v.Slice3(0, i, i), v.Slice(i+1, v.Len())))
	case 1:
		v.Set(reflect.Append(v, x))
	case 2:
		reflect.Swapper(v.Interface())(0, i)
	}
	return true
}

// R1: numbers as far out as may be, at every place and at many at once; nothing panics.
func TestExtremes(t *testing.T) {
	m := &maker{6}
	for range 3000 {
		x := wholeTables()
		for _, v := range places(reflect.ValueOf(&x).Elem()) {
			if m.below(4) > 0 {
				continue
			}
			switch v.Kind() {
			case reflect.Int:
				v.SetInt(pick[int64](&m.chance, math.MinInt64, math.MaxInt64, -1, 0, 1<<62))
			case reflect.Uint32, reflect.Uint64:
				v.SetUint(math.MaxUint64)
			}
		}
		spoilt(t, "extremes", x)
	}
}

// R1: sums of Limits that wrap round are none.
func TestSumsThatWrap(t *testing.T) {
	for _, l := range [][2]int{{math.MaxInt, 1}, {math.MinInt, math.MinInt}, {math.MaxInt, math.MaxInt}, {1 << 62, 1 << 62}, {math.MinInt, 1}} {
		x := wholeTables()
		x.Tasks[2].Limit, x.Tasks[3].Limit, x.Rings[1].Capacity = l[0], l[1], l[0]+l[1]
		spoilt(t, "a sum", x)
	}
}

// R1: lists that are far too long.
func TestLongLists(t *testing.T) {
	const long = 100000
	for what, turn := range map[string]func(x *api.Tables){
		"tasks":     func(x *api.Tables) { x.Tasks = make([]api.TaskRow, long) },
		"rings":     func(x *api.Tables) { x.Rings = make([]api.RingRow, long) },
		"rings, on": func(x *api.Tables) { x.Rings = append(x.Rings, make([]api.RingRow, long)...) },
		"resources": func(x *api.Tables) { x.Resources = make([]api.ResourceRow, long) },
		"counters":  func(x *api.Tables) { x.Counters = make([]api.CounterRow, long) },
		"alarms":    func(x *api.Tables) { x.Alarms = make([]api.AlarmRow, long) },
		"ISRs":      func(x *api.Tables) { x.Isrs = make([]api.IsrRow, long) },
		"messages":  func(x *api.Tables) { x.Messages = make([]api.MessageRow, long) },
		"Own":       func(x *api.Tables) { x.Tasks[0].Own = make([]int, long) },
		"ISR's Own": func(x *api.Tables) { x.Isrs[0].Own = make([]int, long) },
	} {
		x := wholeTables()
		turn(&x)
		x.Depth, x.Frames = len(x.Rings), len(x.Isrs)+4
		spoilt(t, what, x)
	}
	for what, turn := range map[string]func(c *api.Config){
		"tasks":     func(c *api.Config) { c.Tasks = make([]api.Task, long) },
		"resources": func(c *api.Config) { c.Resources = make([]api.Resource, long) },
		"modes":     func(c *api.Config) { c.Modes = make([]string, long) },
		"events":    func(c *api.Config) { c.Events = make([]api.Event, long) },
		"auto":      func(c *api.Config) { c.Tasks[0].Auto = make([]int, long) },
		"alarms":    func(c *api.Config) { c.Alarms = make([]api.Alarm, long) },
		"messages":  func(c *api.Config) { c.Messages = make([]api.Message, long) },
	} {
		refused(t, what, turned(turn))
	}
}
