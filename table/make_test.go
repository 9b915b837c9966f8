package table_test

import (
	"fmt"
	"strconv"
	"testing"

	"tappet/api"
	"tappet/table"
)

// The chapter's first example, P9.1.
func TestFirstExample(t *testing.T) { makes(t, "example 1", small(), smallTables()) }

// The chapter's second example, P9.1.
func TestSecondExample(t *testing.T) {
	x := made(t, "example 2", withTasks([]int{1, 3, 1}, []int{2, 1, 4}))
	equal(t, "Rings", x.Rings, []api.RingRow{{Priority: 3, Capacity: 1}, {Priority: 1, Capacity: 6}})
	equal(t, "Ring", []int{x.Tasks[0].Ring, x.Tasks[1].Ring, x.Tasks[2].Ring}, []int{1, 0, 1})
	equal(t, "Depth", x.Depth, 2)
}

// The chapter's third example, P9.1.
func TestThirdExample(t *testing.T) {
	c := withTasks([]int{1, 3}, []int{1, 1})
	c.OS.Schedule = true
	x := made(t, "example 3", c)
	equal(t, "Resources", x.Resources, []api.ResourceRow{{Internal: false, Ceiling: 3}})
	equal(t, "Own", [][]int{x.Tasks[0].Own, x.Tasks[1].Own}, [][]int{{0}, {0}})
}

// The chapter's fourth example, P9.2.
func TestFourthExample(t *testing.T) {
	for what, turn := range map[string]func(x *api.Tables){
		"Depth 2":    func(x *api.Tables) { x.Depth = 2 },
		"Capacity 2": func(x *api.Tables) { x.Rings[0].Capacity = 2 },
		"Ring 1":     func(x *api.Tables) { x.Tasks[0].Ring = 1 },
		"Auto 2":     func(x *api.Tables) { x.Tasks[0].Auto = 2 },
	} {
		x := made(t, "example 4", small())
		turn(&x)
		spoilt(t, what, x)
		x = smallTables()
		taken(t, "example 4", x)
		turn(&x)
		spoilt(t, what, x)
	}
}

// The errors' number, and the bits of Uses, are those that the chapter tells.
func TestNumbers(t *testing.T) {
	equal(t, "ErrTables", int(api.ErrTables), 90)
	equal(t, "bits", []int{api.UseStartup, api.UseError, api.UseShutdown, api.UsePre, api.UsePost, api.UseService, api.UseParams, api.UseSchedule}, []int{1, 2, 4, 8, 16, 32, 64, 128})
}

// P9.1: an ordinary configuration, every field.
func TestWhole(t *testing.T) { makes(t, "whole", whole(), wholeTables()) }

// withTasks has tasks of these priorities and activations.
func withTasks(priorities, activations []int) api.Config {
	c := small()
	c.Tasks = nil
	for i, p := range priorities {
		c.Tasks = append(c.Tasks, api.Task{Name: "t" + strconv.Itoa(i), Priority: p, Activation: activations[i]})
	}
	return c
}

// P9.1: no tables of a configuration that may not be, whatever of it is at fault.
func TestRefused(t *testing.T) {
	for what, turn := range map[string]func(c *api.Config){
		"CPU":              func(c *api.Config) { c.CPU = "" },
		"OS":               func(c *api.Config) { c.OS.Name = "1" },
		"no mode":          func(c *api.Config) { c.Modes = nil },
		"modes":            func(c *api.Config) { c.Modes = []string{"a", "b", "c", "d", "e", "f", "g", "h", "i"} },
		"mode":             func(c *api.Config) { c.Modes[2] = c.Modes[0] },
		"resource":         func(c *api.Config) { c.Resources[5].Name = "m" },
		"resource's kind":  func(c *api.Config) { c.Resources[5].Kind = 0 },
		"resource's link":  func(c *api.Config) { c.Resources[5].Link = 1 },
		"link":             func(c *api.Config) { c.Resources[0].Link = 6 },
		"link to itself":   func(c *api.Config) { c.Resources[3].Link = 3 },
		"links in a ring":  func(c *api.Config) { c.Resources[3].Link = 0 },
		"link to internal": func(c *api.Config) { c.Resources[3].Link = 2 },
		"event":            func(c *api.Config) { c.Events[1].Name = "e2" },
		"mask":             func(c *api.Config) { c.Events[1].Mask = 0 },
		"no task":          func(c *api.Config) { c.Tasks, c.Alarms, c.Messages = nil, nil, nil },
		"tasks":            func(c *api.Config) { *c = withTasks(make([]int, 257), ones(257)) },
		"task":             func(c *api.Config) { c.Tasks[0].Name = "t2" },
		"priority":         func(c *api.Config) { c.Tasks[2].Priority = 64 },
		"priority below":   func(c *api.Config) { c.Tasks[2].Priority = -1 },
		"activation":       func(c *api.Config) { c.Tasks[3].Activation = 0 },
		"activations":      func(c *api.Config) { c.Tasks[3].Activation = 256 },
		"extended":         func(c *api.Config) { c.Tasks[2].Activation = 2 },
		"auto":             func(c *api.Config) { c.Tasks[0].Auto = []int{3} },
		"task's resources": func(c *api.Config) { c.Tasks[3].Resources = []int{6} },
		"two internal":     func(c *api.Config) { c.Tasks[3].Resources = []int{2, 4} },
		"task's events":    func(c *api.Config) { c.Tasks[1].Events = []int{1, 0} },
		"masks":            func(c *api.Config) { c.Tasks[1].Events = []int{1, 2} },
		"task's messages":  func(c *api.Config) { c.Tasks[1].Messages = []int{7} },
		"counter":          func(c *api.Config) { c.Counters[1].Min = 0 },
		"counter's base":   func(c *api.Config) { c.Counters[0].Base = 1 << 31 },
		"alarm":            func(c *api.Config) { c.Alarms[1].Counter = 2 },
		"alarm's action":   func(c *api.Config) { c.Alarms[1].Action.Kind = 4 },
		"alarm's event":    func(c *api.Config) { c.Alarms[1].Action.Event = 1 },
		"alarm's name":     func(c *api.Config) { c.Alarms[2].Action.Name = "" },
		"alarm's modes":    func(c *api.Config) { c.Alarms[0].Auto = []int{1, 1} },
		"alarm's time":     func(c *api.Config) { c.Alarms[0].Time = 2 },
		"alarm's cycle":    func(c *api.Config) { c.Alarms[3].Cycle = 8 },
		"category":         func(c *api.Config) { c.Isrs[0].Category = 3 },
		"ISR's priority":   func(c *api.Config) { c.Isrs[0].Priority = 63 },
		"ISR's resource":   func(c *api.Config) { c.Isrs[0].Resources = []int{2} },
		"ISR's messages":   func(c *api.Config) { c.Isrs[1].Messages = []int{0} },
		"ISRs":             func(c *api.Config) { c.Isrs[3].Priority = 79 },
		"message's kind":   func(c *api.Config) { c.Messages[6].Kind = 4 },
		"message's length": func(c *api.Config) { c.Messages[1].Length = 3 },
		"message's from":   func(c *api.Config) { c.Messages[6].From = 0 },
		"message's init":   func(c *api.Config) { c.Messages[3].Init = 256 },
		"message's queue":  func(c *api.Config) { c.Messages[2].Queue = 17 },
		"message's action": func(c *api.Config) { c.Messages[1].Action.Kind = 1 },
		"nothing":          func(c *api.Config) { *c = api.Config{} },
	} {
		refused(t, what, turned(turn))
	}
}

func ones(n int) []int {
	l := make([]int, n)
	for i := range l {
		l[i] = 1
	}
	return l
}

// P9.1, Uses: each bit alone, and every sum of them.
func TestUses(t *testing.T) {
	for bit, use := range []func(os *api.Os){
		func(os *api.Os) { os.Startup = true }, func(os *api.Os) { os.Error = true }, func(os *api.Os) { os.Shutdown = true }, func(os *api.Os) { os.PreTask = true },
		func(os *api.Os) { os.PostTask = true }, func(os *api.Os) { os.Service = true }, func(os *api.Os) { os.Params = true }, func(os *api.Os) { os.Schedule = true },
	} {
		c := small()
		use(&c.OS)
		equal(t, "a bit", made(t, "a bit", c).Uses, 1<<bit)
	}
	for n := range 256 {
		c := small()
		c.OS = api.Os{Name: "o", Startup: n&1 > 0, Error: n&2 > 0, Shutdown: n&4 > 0, PreTask: n&8 > 0, PostTask: n&16 > 0, Service: n&32 > 0, Params: n&64 > 0, Schedule: n&128 > 0}
		want := smallTables()
		want.Uses = n
		if n >= 128 {
			want.Resources, want.Tasks[0].Own = []api.ResourceRow{{Ceiling: 1}}, []int{0}
		}
		makes(t, "uses "+strconv.Itoa(n), c, want)
	}
}

// P9.1, Modes and both Autos: from one mode to eight, every set of them.
func TestModes(t *testing.T) {
	for n := 1; n <= api.MaxModes; n++ {
		c := turned(func(c *api.Config) { c.Tasks[0].Auto, c.Tasks[1].Auto, c.Alarms = nil, nil, c.Alarms[:1] })
		c.Modes = []string{"a", "b", "c", "d", "e", "f", "g", "h"}[:n]
		for set := range 1 << n {
			c.Tasks[3].Auto = nil
			for mode := range n {
				if set>>mode&1 == 1 {
					c.Tasks[3].Auto = append(c.Tasks[3].Auto, mode)
				}
			}
			c.Alarms[0].Auto, c.Alarms[0].Time, c.Alarms[0].Cycle = c.Tasks[3].Auto, uint32(min(set, 1)), 0
			x := made(t, "modes", c)
			equal(t, "Modes", x.Modes, n)
			equal(t, "Auto", []uint32{x.Tasks[0].Auto, x.Tasks[3].Auto, x.Alarms[0].Auto}, []uint32{0, uint32(set), uint32(set)})
		}
	}
}

// P9.1, Rings: of one priority, however many tasks have it.
func TestOneRing(t *testing.T) {
	for _, p := range []int{0, 1, 31, 62, 63} {
		for _, n := range []int{1, 2, 3, 255, 256} {
			for _, a := range []int{1, 2, 254, 255} {
				priorities, activations := make([]int, n), make([]int, n)
				for i := range n {
					priorities[i], activations[i] = p, a
				}
				x := made(t, "one ring", withTasks(priorities, activations))
				equal(t, "Rings", x.Rings, []api.RingRow{{Priority: p, Capacity: n * a}})
				equal(t, "Depth", x.Depth, 1)
				for _, row := range x.Tasks {
					equal(t, "row", row, api.TaskRow{Priority: p, Limit: a, Internal: -1})
				}
			}
		}
	}
}

// P9.1, Rings: of every priority, in whatever order tasks have them.
func TestAllRings(t *testing.T) {
	var rising, falling, mixed, many []int
	for p := range 64 {
		rising, falling, mixed = append(rising, p), append(falling, 63-p), append(mixed, p*37%64)
		many = append(many, p, p*5%64, p, p*11%64)
	}
	for what, l := range map[string][]int{"rising": rising, "falling": falling, "mixed": mixed, "many": many} {
		var activations []int
		sums := map[int]int{}
		for i, p := range l {
			activations = append(activations, 1+i%255)
			sums[p] += 1 + i%255
		}
		x := made(t, what, withTasks(l, activations))
		equal(t, what, len(x.Rings), 64)
		equal(t, what, x.Depth, 64)
		for i, r := range x.Rings {
			equal(t, what, r, api.RingRow{Priority: 63 - i, Capacity: sums[63-i]})
		}
		for i, row := range x.Tasks {
			equal(t, what, row, api.TaskRow{Priority: l[i], Ring: 63 - l[i], Limit: activations[i], Internal: -1})
		}
	}
}

// P9.1, Rings: gaps between priorities have none.
func TestGapsOfRings(t *testing.T) {
	x := made(t, "gaps", withTasks([]int{63, 0, 9, 63, 10, 9}, []int{1, 255, 3, 100, 1, 4}))
	equal(t, "Rings", x.Rings, []api.RingRow{{Priority: 63, Capacity: 101}, {Priority: 10, Capacity: 1}, {Priority: 9, Capacity: 7}, {Priority: 0, Capacity: 255}})
	for i, ring := range []int{0, 3, 2, 0, 1, 2} {
		equal(t, "Ring", x.Tasks[i].Ring, ring)
	}
}

// resources: 0 standard, 1 linked to 2, 2 linked to 3, 3 standard, 4 and 5 internal.
func withResources(schedule bool, isr []int, lists ...[]int) api.Config {
	c := small()
	c.OS.Schedule = schedule
	c.Resources = []api.Resource{
		{Name: "a", Kind: api.ResStandard}, {Name: "b", Kind: api.ResLinked, Link: 2}, {Name: "c", Kind: api.ResLinked, Link: 3},
		{Name: "d", Kind: api.ResStandard}, {Name: "e", Kind: api.ResInternal}, {Name: "f", Kind: api.ResInternal},
	}
	c.Tasks = nil
	for i, l := range lists {
		c.Tasks = append(c.Tasks, api.Task{Name: "t" + strconv.Itoa(i), Priority: 10 + i, Activation: 1, Resources: l})
	}
	c.Isrs = []api.Isr{{Name: "i", Category: 2, Priority: 100, Resources: isr}}
	return c
}

// P9.1, Resources, Internal and Own: standard, linked, internal, used by nobody, with RES_SCHEDULER and without.
func TestResources(t *testing.T) {
	for _, x := range []struct {
		what     string
		isr      []int
		lists    [][]int
		ceilings []int
		internal []int
		own      [][]int
	}{
		{"nobody", nil, [][]int{nil, nil}, []int{-1, -1, -1, -1, -1, -1}, []int{-1, -1}, [][]int{nil, nil}},
		{"a standard one", nil, [][]int{{0}, nil}, []int{10, -1, -1, -1, -1, -1}, []int{-1, -1}, [][]int{{0}, nil}},
		{"a standard one, two tasks", nil, [][]int{{0}, {0}, nil}, []int{11, -1, -1, -1, -1, -1}, []int{-1, -1, -1}, [][]int{{0}, {0}, nil}},
		{"a standard one, an ISR", []int{0}, [][]int{{0}, nil}, []int{100, -1, -1, -1, -1, -1}, []int{-1, -1}, [][]int{{0}, nil}},
		{"an ISR alone", []int{0, 3}, [][]int{nil}, []int{100, 100, 100, 100, -1, -1}, []int{-1}, [][]int{nil}},
		{"linked ones", nil, [][]int{{1}, {2}, nil}, []int{-1, 11, 11, 11, -1, -1}, []int{-1, -1, -1}, [][]int{{1}, {2}, nil}},
		{"all of a group", []int{2}, [][]int{{1, 2, 3}, {3}}, []int{-1, 100, 100, 100, -1, -1}, []int{-1, -1}, [][]int{{1, 2, 3}, {3}}},
		{"an internal one", nil, [][]int{{4}, nil}, []int{-1, -1, -1, -1, 10, -1}, []int{10, -1}, [][]int{nil, nil}},
		{"an internal one, two tasks", nil, [][]int{{4}, {4}, nil}, []int{-1, -1, -1, -1, 11, -1}, []int{11, 11, -1}, [][]int{nil, nil, nil}},
		{"two internal ones", nil, [][]int{{4}, {5}, {4}, nil}, []int{-1, -1, -1, -1, 12, 11}, []int{12, 11, 12, -1}, [][]int{nil, nil, nil, nil}},
		{"all", []int{0, 1}, [][]int{{0, 1, 2, 3, 5}, {0, 3, 4}, {3, 4}}, []int{100, 100, 100, 100, 12, 10}, []int{10, 12, 12}, [][]int{{0, 1, 2, 3}, {0, 3}, {3}}},
	} {
		for _, schedule := range []bool{false, true} {
			y := made(t, x.what, withResources(schedule, x.isr, x.lists...))
			var rows []api.ResourceRow
			for id, ceiling := range x.ceilings {
				rows = append(rows, api.ResourceRow{Internal: id >= 4, Ceiling: ceiling})
			}
			if schedule {
				rows = append(rows, api.ResourceRow{Ceiling: 9 + len(x.lists)})
			}
			equal(t, x.what, y.Resources, rows)
			equal(t, x.what, y.Isrs, []api.IsrRow{{Category: 2, Priority: 100, Own: x.isr}})
			for id, row := range y.Tasks {
				own := append([]int(nil), x.own[id]...)
				if schedule {
					own = append(own, 6)
				}
				equal(t, x.what+": Own", row.Own, own)
				equal(t, x.what+": Internal", row.Internal, x.internal[id])
			}
		}
	}
}

// P9.1, Tasks: Full, Limit and Mask, each by itself.
func TestTasks(t *testing.T) {
	for _, full := range []bool{false, true} {
		for _, limit := range []int{1, 2, 3, 254, 255} {
			c := small()
			c.Tasks[0].Full, c.Tasks[0].Activation = full, limit
			want := smallTables()
			want.Tasks[0].Full, want.Tasks[0].Limit, want.Rings[0].Capacity = full, limit, limit
			makes(t, "a task", c, want)
		}
	}
	c := small()
	for i := range 32 {
		c.Events = append(c.Events, api.Event{Name: "e" + strconv.Itoa(i), Mask: 1 << i})
	}
	c.Events = append(c.Events, api.Event{Name: "e", Mask: 0xf0f00000})
	for _, x := range []struct {
		events []int
		mask   uint32
	}{{nil, 0}, {[]int{0}, 1}, {[]int{31}, 1 << 31}, {[]int{0, 31}, 1<<31 + 1}, {[]int{1, 2, 4}, 22}, {[]int{32}, 0xf0f00000}, {[]int{3, 24, 32}, 0xf1f00008}} {
		c.Tasks[0].Events = x.events
		want := smallTables()
		want.Tasks[0].Mask = x.mask
		makes(t, "events", c, want)
	}
	c.Tasks[0].Events = nil
	for i := range 32 {
		c.Tasks[0].Events = append(c.Tasks[0].Events, i)
	}
	equal(t, "all events", made(t, "all events", c).Tasks[0].Mask, 1<<32-1)
}

// P9.1, Counters: each column, and as many as may be.
func TestCounters(t *testing.T) {
	c, want := small(), smallTables()
	for i := range api.MaxCounters {
		k := api.CounterRow{Max: uint32(100 + i), Base: uint32(7 * (i + 1)), Min: uint32(i + 1)}
		if i == 9 {
			k = api.CounterRow{Max: api.MaxTick, Base: api.MaxTick, Min: api.MaxTick}
		}
		c.Counters = append(c.Counters, api.Counter{Name: "k" + strconv.Itoa(i), Max: k.Max, Base: k.Base, Min: k.Min})
		want.Counters = append(want.Counters, k)
		makes(t, "counters", c, want)
	}
}

// withEvents has two counters, two basic tasks and two extended ones, 1 with the masks 6 and 1, 3 with 1 and 8.
func withEvents() api.Config {
	c := withTasks([]int{1, 2, 3, 4}, ones(4))
	c.Counters = []api.Counter{{Name: "k", Max: 100, Base: 1, Min: 5}, {Name: "l", Max: 200, Base: 1, Min: 6}}
	c.Events = []api.Event{{Name: "a", Mask: 6}, {Name: "b", Mask: 1}, {Name: "c", Mask: 8}}
	c.Tasks[1].Events, c.Tasks[3].Events = []int{0, 1}, []int{1, 2}
	return c
}

// actions are all kinds of actions of that configuration, with their rows.
func actions() map[api.Action]api.ActionRow {
	return map[api.Action]api.ActionRow{
		{Kind: api.ActTask}:                     {Kind: 1},
		{Kind: api.ActTask, Task: 1}:            {Kind: 1, Task: 1},
		{Kind: api.ActTask, Task: 3}:            {Kind: 1, Task: 3},
		{Kind: api.ActEvent, Task: 1}:           {Kind: 2, Task: 1, Mask: 6},
		{Kind: api.ActEvent, Task: 1, Event: 1}: {Kind: 2, Task: 1, Mask: 1},
		{Kind: api.ActEvent, Task: 3, Event: 1}: {Kind: 2, Task: 3, Mask: 1},
		{Kind: api.ActEvent, Task: 3, Event: 2}: {Kind: 2, Task: 3, Mask: 8},
		{Kind: api.ActCallback, Name: "f"}:      {Kind: 3},
	}
}

// P9.1, Alarms: each column, with actions of every kind.
func TestAlarms(t *testing.T) {
	for action, row := range actions() {
		for counter := range 2 {
			c := withEvents()
			c.Modes = []string{"m", "n", "o"}
			c.Alarms = []api.Alarm{{Name: "x", Counter: 1, Action: api.Action{Kind: api.ActTask, Task: 2}}, {Name: "y", Counter: counter, Action: action}}
			want := []api.AlarmRow{{Counter: 1, Action: api.ActionRow{Kind: 1, Task: 2}}, {Counter: counter, Action: row}}
			equal(t, "not set", made(t, "not set", c).Alarms, want)
			c.Alarms[1].Auto, c.Alarms[1].Time = []int{0, 2}, 3
			want[1].Auto, want[1].Time = 5, 3
			equal(t, "with a time", made(t, "with a time", c).Alarms, want)
			c.Alarms[1].Cycle = 7
			want[1].Cycle = 7
			x := made(t, "with a cycle", c)
			equal(t, "with a cycle", x.Alarms, want)
			equal(t, "Callbacks", x.Callbacks, int(row.Kind)/3)
		}
	}
}

// P9.1, Isrs: each column; Frames with none and with as many as may be.
func TestIsrs(t *testing.T) {
	c, want := withResources(true, nil, nil), []api.IsrRow(nil)
	c.Isrs = nil
	equal(t, "no ISR", made(t, "no ISR", c).Frames, 4)
	for i := range api.MaxIsrs {
		row := api.IsrRow{Category: 2, Priority: 64 + i*7%32, Own: [][]int{nil, {0}, {1, 3}, {0, 1, 2, 3}}[i%4]}
		if i%3 == 0 {
			row = api.IsrRow{Category: 1, Priority: 96 + i*7%32}
		}
		c.Isrs = append(c.Isrs, api.Isr{Name: "i" + strconv.Itoa(i), Category: row.Category, Priority: row.Priority, Resources: row.Own})
		want = append(want, row)
		x := made(t, "ISRs", c)
		equal(t, "ISRs", x.Isrs, want)
		equal(t, "Frames", x.Frames, i+5)
	}
}

// P9.1, Messages: each column, with actions of every kind.
func TestMessages(t *testing.T) {
	all := actions()
	all[api.Action{}] = api.ActionRow{}
	all[api.Action{Kind: api.ActFlag, Name: "f"}] = api.ActionRow{Kind: 4}
	for action, row := range all {
		for _, length := range []int{1, 2, 4, 8} {
			for _, init := range []uint64{0, 1, 255, 256, 65535, 65536, 4294967295} {
				c := withEvents()
				c.Messages = []api.Message{
					{Name: "q", Kind: api.MsgQueued, From: 2, Queue: length, Action: action}, {Name: "s", Kind: api.MsgSend, Length: 4}, {Name: "t", Kind: api.MsgSend, Length: length},
					{Name: "u", Kind: api.MsgUnqueued, From: 2, Init: init, Action: action},
				}
				if init>>(8*length) != 0 {
					refused(t, "Init", c)
					continue
				}
				x := made(t, "messages", c)
				equal(t, "messages", x.Messages, []api.MessageRow{
					{Kind: 3, From: 2, Queue: length, Action: row}, {Kind: 1, Length: 4}, {Kind: 1, Length: length}, {Kind: 2, From: 2, Init: init, Action: row},
				})
				equal(t, "Callbacks", x.Callbacks, []int{0, 0, 0, 2, 0}[row.Kind])
			}
		}
	}
}

// withAlarms has so many alarms of each counter; withMessages sent messages, and so many received of each.
func withAlarms(counts ...int) api.Config {
	c := small()
	for k, n := range counts {
		c.Counters = append(c.Counters, api.Counter{Name: "k" + strconv.Itoa(k), Max: 9, Base: 1, Min: 1})
		for i := range n {
			c.Alarms = append(c.Alarms, api.Alarm{Name: fmt.Sprintf("a%d_%d", k, i), Counter: k, Action: api.Action{Kind: api.ActTask}})
		}
	}
	return c
}

func withMessages(counts ...int) api.Config {
	c := small()
	for k := range counts {
		c.Messages = append(c.Messages, api.Message{Name: "s" + strconv.Itoa(k), Kind: api.MsgSend, Length: 1})
	}
	for k, n := range counts {
		for i := range n {
			m := api.Message{Name: fmt.Sprintf("m%d_%d", k, i), Kind: api.MsgUnqueued, From: k}
			if i%2 == 1 {
				m.Kind, m.Queue = api.MsgQueued, 1
			}
			c.Messages = append(c.Messages, m)
		}
	}
	return c
}

// P9.1, Errors: the alarms of one counter, the received messages of one sent message; never fewer than two.
func TestErrors(t *testing.T) {
	for _, x := range []struct {
		want   int
		counts []int
	}{
		{2, nil}, {2, []int{0}}, {2, []int{1}}, {2, []int{2}}, {3, []int{3}}, {4, []int{4}}, {60, []int{60}},
		{2, []int{1, 1, 1, 1}}, {2, []int{2, 1, 2, 2}}, {3, []int{3, 0, 2}}, {3, []int{0, 3, 2}}, {5, []int{1, 2, 5}}, {5, []int{5, 5, 5}}, {9, []int{8, 9, 8}},
	} {
		equal(t, "alarms", made(t, "alarms", withAlarms(x.counts...)).Errors, x.want)
		equal(t, "messages", made(t, "messages", withMessages(x.counts...)).Errors, x.want)
		for n := range 8 {
			c := withAlarms(x.counts...)
			c.Messages = withMessages(1, n).Messages
			equal(t, "both", made(t, "both", c).Errors, max(x.want, n))
			c = withMessages(x.counts...)
			d := withAlarms(n, 1)
			c.Alarms, c.Counters = d.Alarms, d.Counters
			equal(t, "both", made(t, "both", c).Errors, max(x.want, n))
		}
	}
	equal(t, "as many as may be", made(t, "alarms", withAlarms(64)).Errors, 64)
	equal(t, "as many as may be", made(t, "messages", withMessages(63)).Errors, 63)
	equal(t, "sent ones alone", made(t, "sent", withMessages(make([]int, 64)...)).Errors, 2)
}

// P9.1, Callbacks: alarms and received messages with a callback, no others.
func TestCallbacks(t *testing.T) {
	callback := api.Action{Kind: api.ActCallback, Name: "f"}
	for _, alarms := range []int{0, 1, 2, 5, 64} {
		for _, messages := range []int{0, 1, 2, 7, 63} {
			c := withMessages(63)
			d := withAlarms(64)
			c.Alarms, c.Counters = d.Alarms, d.Counters
			for i := range alarms {
				c.Alarms[63-i].Action = callback
			}
			for i := range 63 {
				c.Messages[1+i].Action = []api.Action{{}, {Kind: api.ActFlag, Name: "f"}, {Kind: api.ActTask}}[i%3]
				if i < messages {
					c.Messages[1+i].Action = callback
				}
			}
			equal(t, "Callbacks", made(t, "callbacks", c).Callbacks, alarms+messages)
		}
	}
}

// P9.1: as much of everything as may be.
func TestGreatest(t *testing.T) {
	c := greatest()
	x := made(t, "greatest", c)
	makes(t, "greatest", c, tablesOf(c))
	equal(t, "numbers", []int{x.Uses, x.Modes, x.Depth, x.Frames, x.Errors, x.Callbacks}, []int{255, 8, 64, 36, 64, 127})
	equal(t, "rows", []int{len(x.Tasks), len(x.Rings), len(x.Resources), len(x.Counters), len(x.Alarms), len(x.Isrs), len(x.Messages)}, []int{256, 64, 65, 16, 64, 32, 64})
}

func greatest() api.Config {
	c := withMessages(63)
	d := withAlarms(64)
	c.Alarms, c.Counters = d.Alarms, d.Counters
	for len(c.Counters) < api.MaxCounters {
		c.Counters = append(c.Counters, api.Counter{Name: "k" + strconv.Itoa(len(c.Counters)), Max: 9, Base: 1, Min: 1})
	}
	for i := range 63 {
		c.Messages[1+i].Action = api.Action{Kind: api.ActCallback, Name: "f"}
	}
	for i := range 64 {
		c.Alarms[i].Action = api.Action{Kind: api.ActCallback, Name: "f"}
		c.Resources = append(c.Resources, api.Resource{Name: "r" + strconv.Itoa(i), Kind: api.ResLinked, Link: max(i-1, 0)})
	}
	c.Resources[0].Kind = api.ResStandard
	c.Resources[63] = api.Resource{Name: "r63", Kind: api.ResInternal}
	c.OS = api.Os{Name: "o", Startup: true, Error: true, Shutdown: true, PreTask: true, PostTask: true, Service: true, Params: true, Schedule: true}
	c.Modes = []string{"a", "b", "c", "d", "e", "f", "g", "h"}
	c.Tasks = withTasks(make([]int, 256), ones(256)).Tasks
	for i := range 256 {
		c.Events = append(c.Events, api.Event{Name: "e" + strconv.Itoa(i), Mask: 1 << (i % 32)})
		c.Tasks[i].Priority, c.Tasks[i].Activation = i%64, 255
		for mode := range c.Modes {
			c.Tasks[i].Auto = append(c.Tasks[i].Auto, mode)
		}
		for r := range c.Resources {
			c.Tasks[i].Resources = append(c.Tasks[i].Resources, r)
		}
		if i%2 == 0 {
			c.Tasks[i].Activation = 1
			for e := range 32 {
				c.Tasks[i].Events = append(c.Tasks[i].Events, i/32*32+e)
			}
		}
	}
	for i := range api.MaxIsrs {
		c.Isrs = append(c.Isrs, api.Isr{Name: "i" + strconv.Itoa(i), Category: 2, Priority: 127 - i, Resources: c.Tasks[0].Resources[:63]})
	}
	return c
}

// P9.1: one more of everything is too much.
func TestOneTooMany(t *testing.T) {
	for what, turn := range map[string]func(c *api.Config){
		"modes":     func(c *api.Config) { c.Modes = append(c.Modes, "z") },
		"tasks":     func(c *api.Config) { c.Tasks = append(c.Tasks, api.Task{Name: "z", Activation: 1}) },
		"resources": func(c *api.Config) { c.Resources = append(c.Resources, api.Resource{Name: "z", Kind: api.ResStandard}) },
		"events":    func(c *api.Config) { c.Events = append(c.Events, api.Event{Name: "z", Mask: 1}) },
		"counters":  func(c *api.Config) { c.Counters = append(c.Counters, api.Counter{Name: "z", Max: 1, Base: 1, Min: 1}) },
		"alarms":    func(c *api.Config) { c.Alarms = append(c.Alarms, api.Alarm{Name: "z", Action: c.Alarms[0].Action}) },
		"ISRs":      func(c *api.Config) { c.Isrs = append(c.Isrs, api.Isr{Name: "z", Category: 2, Priority: 64}) },
		"messages":  func(c *api.Config) { c.Messages = append(c.Messages, api.Message{Name: "z", Kind: api.MsgUnqueued}) },
	} {
		c := greatest()
		turn(&c)
		refused(t, what, c)
	}
	if _, e := table.Make(greatest()); e != api.OK {
		t.Errorf("greatest: %d", e)
	}
}
