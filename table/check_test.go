package table_test

import (
	"math"
	"slices"
	"testing"

	"tappet/api"
)

// reshaped is the ordinary tables in which something was turned; what follows from other rows is made right again.
func reshaped(turn func(x *api.Tables)) api.Tables {
	x := wholeTables()
	turn(&x)
	mend(&x)
	return x
}

// cell tries values at one place of the ordinary tables: those that may be there, and those that may not.
func cell[T any](t *testing.T, what string, set func(x *api.Tables, v T), good, bad []T) {
	t.Helper()
	for _, v := range good {
		taken(t, what+" "+short(v), reshaped(func(x *api.Tables) { set(x, v) }))
	}
	for _, v := range bad {
		spoilt(t, what+" "+short(v), reshaped(func(x *api.Tables) { set(x, v) }))
	}
}

// raw is as cell, but nothing is made right again.
func raw[T any](t *testing.T, what string, set func(x *api.Tables, v T), good, bad []T) {
	t.Helper()
	for _, v := range good {
		x := wholeTables()
		set(&x, v)
		taken(t, what+" "+short(v), x)
	}
	for _, v := range bad {
		x := wholeTables()
		set(&x, v)
		spoilt(t, what+" "+short(v), x)
	}
}

// far are numbers that fit nowhere.
func far(l ...int) []int {
	return append(l, math.MinInt, math.MinInt+1, -1<<32, -256, 1<<31, 1<<32, 1<<32+1, 1<<32+2, 1<<32+3, math.MaxInt-1, math.MaxInt)
}

// P9.2: the ordinary tables are taken, the least too; none are not.
func TestTaken(t *testing.T) {
	taken(t, "whole", wholeTables())
	taken(t, "small", smallTables())
	spoilt(t, "nothing", api.Tables{})
	spoilt(t, "no task", api.Tables{Modes: 1, Frames: 4, Errors: 2})
	spoilt(t, "no task", reshaped(func(x *api.Tables) {
		*x = api.Tables{Uses: 128, Modes: 1, Resources: x.Resources, Counters: x.Counters}
	}))
}

// P9.2: Uses and Modes.
func TestCheckOfUses(t *testing.T) {
	raw(t, "Uses", func(x *api.Tables, v int) { x.Uses = v }, []int{0, 1, 2, 127, 128, 130, 254, 255}, far(-1, 256, 257, 511))
	raw(t, "Modes", func(x *api.Tables, v int) { x.Modes = v }, []int{3, 4, 5, 6, 7, 8}, far(-1, 0, 1, 2, 9, 10, 31, 32, 33, 63, 64, 65))
	for modes := -1; modes <= 10; modes++ {
		for auto := range uint32(600) {
			x := smallTables()
			x.Modes, x.Tasks[0].Auto = modes, auto
			if modes >= 1 && modes <= 8 && auto < uint32(math.Pow(2, float64(modes))) {
				taken(t, "Auto", x)
			} else {
				spoilt(t, "Auto", x)
			}
		}
	}
}

// P9.2: as many of each kind as may be, and one more.
func TestCheckOfCounts(t *testing.T) {
	sent := api.MessageRow{Kind: api.MsgSend, Length: 1}
	cell(t, "tasks", func(x *api.Tables, n int) {
		for len(x.Tasks) < n {
			x.Tasks = append(x.Tasks, api.TaskRow{Priority: 7, Ring: 1, Limit: 1, Internal: -1})
		}
	}, []int{5, 255, 256}, []int{257, 258, 300, 512})
	cell(t, "resources", func(x *api.Tables, n int) {
		for len(x.Resources) < n {
			x.Resources = append(x.Resources, api.ResourceRow{})
		}
	}, []int{8, 63, 64, 65}, []int{66, 67, 128, 256})
	cell(t, "counters", func(x *api.Tables, n int) {
		for len(x.Counters) < n {
			x.Counters = append(x.Counters, x.Counters[0])
		}
	}, []int{3, 15, 16}, []int{17, 18, 32, 256})
	cell(t, "alarms", func(x *api.Tables, n int) {
		for len(x.Alarms) < n {
			x.Alarms = append(x.Alarms, x.Alarms[0])
		}
	}, []int{5, 63, 64}, []int{65, 66, 128, 256})
	cell(t, "ISRs", func(x *api.Tables, n int) {
		x.Isrs = nil
		for len(x.Isrs) < n {
			x.Isrs = append(x.Isrs, api.IsrRow{Category: 1, Priority: 127 - len(x.Isrs)})
		}
	}, []int{0, 1, 31, 32}, []int{33, 34, 63, 64})
	cell(t, "messages", func(x *api.Tables, n int) {
		for len(x.Messages) < n {
			x.Messages = append(x.Messages, sent)
		}
	}, []int{8, 63, 64}, []int{65, 66, 128, 256})
	cell(t, "none", func(x *api.Tables, turn func(x *api.Tables)) { turn(x) }, []func(x *api.Tables){
		func(x *api.Tables) { x.Alarms = nil }, func(x *api.Tables) { x.Alarms, x.Counters = nil, nil }, func(x *api.Tables) { x.Isrs = nil }, func(x *api.Tables) { x.Messages = nil },
	}, []func(x *api.Tables){
		func(x *api.Tables) { x.Tasks = nil }, func(x *api.Tables) { x.Tasks, x.Rings = nil, nil }, func(x *api.Tables) { x.Rings = nil }, func(x *api.Tables) { x.Resources = nil }, func(x *api.Tables) { x.Counters = nil },
		func(x *api.Tables) { *x = api.Tables{Modes: 1} },
	})
}

// shelves gives tables as many tasks, one a priority, with their rings.
func shelves(x *api.Tables, priorities ...int) {
	*x = smallTables()
	x.Rings, x.Tasks = nil, nil
	for i, p := range priorities {
		x.Rings = append(x.Rings, api.RingRow{Priority: p, Capacity: 1})
		x.Tasks = append(x.Tasks, api.TaskRow{Priority: p, Ring: i, Limit: 1, Internal: -1})
	}
}

// P9.2, Rings: priorities from 0 to MaxPriority, falling, each that of some task.
func TestCheckOfRings(t *testing.T) {
	var all []int
	for p := range 64 {
		all = append(all, 63-p)
	}
	cell(t, "priorities", func(x *api.Tables, l []int) { shelves(x, l...) },
		[][]int{{0}, {63}, {1, 0}, {63, 62}, {63, 0}, {9, 5, 1}, all},
		[][]int{{-1}, {64}, {127}, {math.MinInt}, {math.MaxInt}, {0, -1}, {64, 63}, {0, 1}, {62, 63}, {5, 5}, {0, 0}, {63, 63}, {9, 1, 5}, {9, 5, 5}, {9, 9, 5}, {1, 5, 9}, append(slices.Clone(all), -1), append([]int{64}, all...)})
	cell(t, "a ring of no task", func(x *api.Tables, p int) {
		x.Rings = append(x.Rings, api.RingRow{Priority: p})
		slices.SortFunc(x.Rings, func(a, b api.RingRow) int { return b.Priority - a.Priority })
		for i := range x.Tasks {
			x.Tasks[i].Ring = slices.IndexFunc(x.Rings, func(r api.RingRow) bool { return r.Priority == x.Tasks[i].Priority })
		}
	}, nil, []int{1, 2, 6, 8, 61, 63})
	cell(t, "a ring too few", func(x *api.Tables, i int) { x.Rings = slices.Delete(x.Rings, i, i+1) }, nil, []int{0, 1, 2})
	for i, capacity := range []int{1, 4, 255} {
		raw(t, "Capacity", func(x *api.Tables, v int) { x.Rings[i].Capacity = v }, []int{capacity}, far(-1, 0, capacity-1, capacity+1, 259, 260))
	}
	raw(t, "two Capacities", func(x *api.Tables, v int) { x.Rings[0].Capacity, x.Rings[1].Capacity = 1+v, 4-v }, []int{0}, []int{-1, 1, 3, 4})
	raw(t, "Limit and Capacity", func(x *api.Tables, v int) { x.Tasks[3].Limit, x.Rings[1].Capacity = v, v+1 }, []int{1, 2, 3, 254, 255}, far(-1, 0, 256))
}

// P9.2: each Task's Ring and Priority.
func TestCheckOfTaskRings(t *testing.T) {
	for i, ring := range []int{2, 0, 1, 1} {
		raw(t, "Ring", func(x *api.Tables, v int) { x.Tasks[i].Ring = v }, []int{ring}, slices.DeleteFunc(far(-1, 0, 1, 2, 3, 4, 7, 62), func(v int) bool { return v == ring }))
	}
	cell(t, "Priority", func(x *api.Tables, v int) { x.Tasks[3].Priority = v }, []int{7}, far(-1, 0, 6, 8, 62, 63, 64))
	cell(t, "Priority and Ring", func(x *api.Tables, v [2]int) { x.Tasks[3].Priority, x.Tasks[3].Ring = v[0], v[1] },
		[][2]int{{7, 1}, {62, 0}, {0, 2}}, [][2]int{{7, 0}, {62, 1}, {0, 1}, {7, 2}, {7, 3}, {62, -1}})
}

// P9.2: each Task's Limit, with events and without.
func TestCheckOfLimits(t *testing.T) {
	for _, i := range []int{0, 3} {
		cell(t, "Limit", func(x *api.Tables, v int) { x.Tasks[i].Limit = v }, []int{1, 2, 3, 128, 254, 255}, far(-1, 0, 256, 257, 511))
		cell(t, "Mask", func(x *api.Tables, v uint32) { x.Tasks[i].Mask = v }, []uint32{0}, []uint32{1, 2, 1 << 31, 1<<32 - 1})
	}
	for _, i := range []int{1, 2} {
		cell(t, "Limit with events", func(x *api.Tables, v int) { x.Tasks[i].Limit = v }, []int{1}, far(-1, 0, 2, 3, 255, 256))
	}
	cell(t, "Mask", func(x *api.Tables, v uint32) { x.Tasks[2].Mask = v }, []uint32{4, 5, 6, 7, 1<<31 + 4, 1<<32 - 1}, []uint32{0, 1, 2, 3, 1 << 31, 8})
	cell(t, "one start and any Mask", func(x *api.Tables, v uint32) { x.Tasks[3].Limit, x.Tasks[3].Mask = 1, v }, []uint32{0, 1, 1 << 31, 1<<32 - 1}, nil)
}

// P9.2: each Task's Internal.
func TestCheckOfInternals(t *testing.T) {
	for i, priority := range []int{0, 62, 7, 7} {
		good := []int{-1, priority, priority + 1, 63, 64, 100, 126, 127}
		raw(t, "Internal", func(x *api.Tables, v int) { x.Tasks[i].Internal = v }, good, far(-2, -3, 128, 129))
		if priority > 0 {
			raw(t, "Internal", func(x *api.Tables, v int) { x.Tasks[i].Internal = v }, good, []int{0, priority - 1, priority / 2})
		}
	}
}

// ownLists are lists that may be those of one of a priority above 62 and at most 80, and some that may not.
func ownLists() (good, bad [][]int) {
	return [][]int{nil, {}, {0}, {1}, {3}, {0, 1}, {0, 3}, {1, 3}, {0, 1, 3}},
		[][]int{
			{-1}, {7}, {8}, {math.MinInt}, {math.MaxInt}, {1 << 32}, {0, 7}, {-1, 0}, {0, 1, 3, 7}, // no ids
			{0, 0}, {1, 0}, {3, 1}, {0, 3, 1}, {0, 1, 1}, {3, 3}, {0, 1, 3, 3}, {3, 0}, // they do not rise
			{2}, {4}, {0, 2}, {2, 3}, {0, 1, 2, 3}, // internal ones
			{5}, {0, 5}, {1, 3, 5}, // of a ceiling below: nobody uses it
		}
}

// P9.2: each Task's Own.
func TestCheckOfTaskOwn(t *testing.T) {
	good, bad := ownLists()
	for i := range 4 {
		raw(t, "Own", func(x *api.Tables, v []int) { x.Tasks[i].Own = v }, append(good, []int{6}, []int{0, 6}, []int{0, 1, 3, 6}, []int{3, 6}), append(bad, []int{6, 6}, []int{6, 0}, []int{6, 7}, []int{5, 6}))
	}
	for i, priority := range []int{0, 62, 7, 7} {
		own := func(x *api.Tables, v int) { x.Resources[5].Ceiling, x.Tasks[i].Own = v, []int{5} }
		raw(t, "a ceiling", own, []int{priority, priority + 1, 63, 64, 127}, []int{-1, priority - 1, -2, 128})
		raw(t, "an internal one's ceiling", func(x *api.Tables, v int) { own(x, v); x.Resources[5].Internal = true }, nil, []int{priority, 127, -1})
	}
	raw(t, "a ceiling below", func(x *api.Tables, v int) { x.Resources[6].Ceiling = v }, []int{62, 63, 64, 127}, []int{-1, 0, 7, 61})
	raw(t, "internal behind all", func(x *api.Tables, v bool) { x.Resources[6].Internal = v }, []bool{false}, []bool{true})
}

// P9.2: each Resource's Ceiling, of one that nobody owns.
func TestCheckOfResources(t *testing.T) {
	for _, id := range []int{2, 4, 5} {
		for _, internal := range []bool{false, true} {
			raw(t, "Ceiling", func(x *api.Tables, v int) { x.Resources[id] = api.ResourceRow{Internal: internal, Ceiling: v} }, []int{-1, 0, 1, 63, 64, 126, 127}, far(-2, -3, 128, 129, 255))
		}
	}
	raw(t, "Ceiling of used ones", func(x *api.Tables, v int) { x.Resources[1].Ceiling = v }, []int{80, 81, 127}, far(-1, 0, 65, 79, 128))
	raw(t, "Ceiling of used ones", func(x *api.Tables, v int) { x.Resources[3].Ceiling = v }, []int{65, 66, 80, 127}, far(-1, 0, 64, 128))
}

// P9.2: each Task's and each Alarm's Auto below 2 to the power of Modes.
func TestCheckOfAuto(t *testing.T) {
	for i := range 4 {
		raw(t, "Task's Auto", func(x *api.Tables, v uint32) { x.Tasks[i].Auto = v }, []uint32{0, 1, 2, 3, 4, 5, 6, 7}, []uint32{8, 9, 15, 16, 128, 255, 256, 1 << 31, 1<<32 - 1})
	}
	for _, i := range []int{0, 2, 3} {
		raw(t, "Alarm's Auto", func(x *api.Tables, v uint32) { x.Alarms[i].Auto = v }, []uint32{1, 2, 3, 4, 5, 6, 7}, []uint32{0, 8, 9, 15, 16, 128, 255, 256, 1 << 31, 1<<32 - 1})
	}
	raw(t, "Auto of an alarm without Time", func(x *api.Tables, v uint32) { x.Alarms[1].Auto = v }, []uint32{0}, []uint32{1, 2, 7, 8})
}

// P9.2: each Counter as in layer 7.
func TestCheckOfCounters(t *testing.T) {
	const tick = api.MaxTick
	bad := []uint32{0, 1 << 31, 1<<31 + 1, 1<<32 - 1}
	cell(t, "Max", func(x *api.Tables, v uint32) { x.Counters[1].Max, x.Alarms = v, nil }, []uint32{9, 10, tick - 1, tick}, append(bad, 1, 8))
	cell(t, "Base", func(x *api.Tables, v uint32) { x.Counters[1].Base = v }, []uint32{1, 2, 9, tick - 1, tick}, bad)
	cell(t, "Min", func(x *api.Tables, v uint32) { x.Counters[1].Min, x.Alarms = v, nil }, []uint32{1, 2, 9, tick - 1, tick}, bad)
	cell(t, "Base of the first", func(x *api.Tables, v uint32) { x.Counters[0].Base = v }, []uint32{1, 2, tick}, bad)
	cell(t, "Min and Max", func(x *api.Tables, v [2]uint32) { x.Counters[0] = api.CounterRow{Max: v[1], Base: 1, Min: v[0]} },
		[][2]uint32{{1, 1}, {1, 2}, {1, tick}}, [][2]uint32{{2, 1}, {0, 1}, {0, 0}, {1, 0}, {1, 1 << 31}, {1 << 31, 1 << 31}})
	cell(t, "Min and Max, no alarms", func(x *api.Tables, v [2]uint32) {
		x.Counters[0], x.Alarms = api.CounterRow{Max: v[1], Base: 1, Min: v[0]}, nil
	}, [][2]uint32{{2, 2}, {2, 3}, {tick, tick}, {tick - 1, tick}}, [][2]uint32{{3, 2}, {tick, tick - 1}, {tick, 1}})
}

// P9.2: each Alarm's Counter, Time and Cycle.
func TestCheckOfAlarms(t *testing.T) {
	const tick = api.MaxTick
	cell(t, "Counter", func(x *api.Tables, v int) { x.Alarms[1].Counter = v }, []int{0, 1}, far(-1, 2, 3, 16))
	cell(t, "Counter of the first", func(x *api.Tables, v int) { x.Alarms[0].Counter, x.Alarms[0].Cycle = v, 0 }, []int{0, 1}, far(-1, 2, 3))
	for _, i := range []int{2, 3} {
		raw(t, "Time", func(x *api.Tables, v uint32) { x.Alarms[i].Time = v }, []uint32{1, 2, 9, tick - 1, tick}, []uint32{0, 1 << 31, 1<<32 - 1})
		raw(t, "Cycle", func(x *api.Tables, v uint32) { x.Alarms[i].Cycle = v }, []uint32{0, 9, 10, tick - 1, tick}, []uint32{1, 2, 8, 1 << 31, 1<<32 - 1})
	}
	raw(t, "Time", func(x *api.Tables, v uint32) { x.Alarms[0].Time = v }, []uint32{1}, []uint32{0, 2, 3, tick})
	raw(t, "Cycle", func(x *api.Tables, v uint32) { x.Alarms[0].Cycle = v }, []uint32{0, 1}, []uint32{2, 3, tick})
	raw(t, "Time without Auto", func(x *api.Tables, v uint32) { x.Alarms[1].Time = v }, []uint32{0}, []uint32{1, 9, tick, 1<<32 - 1})
	raw(t, "Cycle without Auto", func(x *api.Tables, v uint32) { x.Alarms[1].Cycle = v }, []uint32{0}, []uint32{1, 9, tick, 1<<32 - 1})
	raw(t, "a counter between", func(x *api.Tables, v [2]uint32) {
		x.Counters[1], x.Alarms[2].Time, x.Alarms[2].Cycle, x.Alarms[3].Time = api.CounterRow{Max: 20, Base: 1, Min: 9}, v[0], v[1], 1
	}, [][2]uint32{{1, 0}, {20, 20}, {1, 9}, {8, 10}, {20, 0}}, [][2]uint32{{0, 0}, {21, 0}, {0, 9}, {1, 8}, {1, 21}, {1, 1}, {21, 21}})
}

// rowsOfActions are the actions that may be of an alarm in the ordinary tables, those that may be of a received message besides, and those that may be of neither.
func rowsOfActions() (alarm, message, neither []api.ActionRow) {
	type row = api.ActionRow
	for task := range 4 {
		alarm = append(alarm, row{Kind: 1, Task: task})
		neither = append(neither, row{Kind: 3, Task: task + 1}, row{Kind: 4, Task: task + 1}, row{Kind: 0, Task: task + 1}, row{Kind: 1, Task: task, Mask: 1}, row{Kind: 2, Task: task, Mask: 0})
	}
	for _, mask := range []uint32{1, 2, 3, 4, 5, 6, 7, 1 << 31, 1<<31 + 1, 1<<31 + 7} {
		alarm = append(alarm, row{Kind: 2, Task: 1, Mask: mask})
		neither = append(neither, row{Kind: 2, Task: 0, Mask: mask}, row{Kind: 2, Task: 3, Mask: mask}, row{Kind: 3, Mask: mask}, row{Kind: 4, Mask: mask}, row{Kind: 0, Mask: mask}, row{Kind: 1, Task: 1, Mask: mask})
	}
	alarm = append(alarm, row{Kind: 2, Task: 2, Mask: 1}, row{Kind: 2, Task: 2, Mask: 4}, row{Kind: 2, Task: 2, Mask: 5}, row{Kind: 3})
	for _, mask := range []uint32{8, 9, 15, 1 << 30, 1<<30 + 1, 1<<32 - 1, 1<<31 + 8} {
		neither = append(neither, row{Kind: 2, Task: 1, Mask: mask}, row{Kind: 2, Task: 2, Mask: mask})
	}
	neither = append(neither, row{Kind: 2, Task: 2, Mask: 2}, row{Kind: 2, Task: 2, Mask: 3}, row{Kind: 2, Task: 2, Mask: 6}, row{Kind: 2, Task: 2, Mask: 7}, row{Kind: 2, Task: 2, Mask: 1 << 31})
	for _, task := range far(-1, 4, 5, 256) {
		for kind := range api.ActionKind(5) {
			neither = append(neither, row{Kind: kind, Task: task}, row{Kind: kind, Task: task, Mask: 1})
		}
	}
	for _, kind := range far(-1, 5, 6) {
		neither = append(neither, row{Kind: api.ActionKind(kind)}, row{Kind: api.ActionKind(kind), Task: 1, Mask: 1})
	}
	return alarm, []row{{}, {Kind: 4}}, neither
}

// P9.2: the actions of alarms and of messages.
func TestCheckOfActions(t *testing.T) {
	alarm, message, neither := rowsOfActions()
	for i := range 4 {
		cell(t, "an alarm's action", func(x *api.Tables, v api.ActionRow) { x.Alarms[i].Action = v }, alarm, append(neither, message...))
	}
	for _, i := range []int{0, 2, 3, 5, 6} {
		cell(t, "a received message's action", func(x *api.Tables, v api.ActionRow) { x.Messages[i].Action = v }, append(alarm, message...), neither)
	}
	for _, i := range []int{1, 4} {
		cell(t, "a sent message's action", func(x *api.Tables, v api.ActionRow) { x.Messages[i].Action = v }, []api.ActionRow{{}}, slices.Concat(alarm, neither, []api.ActionRow{{Kind: 4}}))
	}
}

// P9.2: each Isr's Category and Priority: each priority once, those of category 1 above those of category 2.
func TestCheckOfIsrs(t *testing.T) {
	for i, good := range [][]int{{2}, {1}, {2}, {1, 2}} {
		bad := slices.DeleteFunc(far(-1, 0, 1, 2, 3, 4), func(v int) bool { return slices.Contains(good, v) })
		raw(t, "Category", func(x *api.Tables, v int) { x.Isrs[i].Category = v }, good, bad)
	}
	raw(t, "Priority", func(x *api.Tables, v int) { x.Isrs[0].Priority = v }, []int{64, 65, 66, 79}, far(-1, 0, 62, 63, 80, 81, 82, 83, 84, 126, 127, 128))
	raw(t, "Priority", func(x *api.Tables, v int) { x.Isrs[0] = api.IsrRow{Category: 2, Priority: v} }, []int{64, 79, 81, 82}, far(63, 80, 83, 84, 126, 127, 128))
	raw(t, "Priority", func(x *api.Tables, v int) { x.Isrs[1].Priority = v }, []int{81, 82, 84, 125, 126, 127}, far(63, 64, 65, 66, 79, 80, 83, 128, 129, 255))
	raw(t, "Priority", func(x *api.Tables, v int) { x.Isrs[3].Priority = v }, []int{81, 82, 84, 125, 127}, far(63, 64, 65, 66, 79, 80, 126, 128))
	set := func(x *api.Tables, l []api.IsrRow) { x.Isrs = l }
	cell(t, "ISRs", set, [][]api.IsrRow{
		{{Category: 1, Priority: 64}}, {{Category: 2, Priority: 127}}, {{Category: 1, Priority: 127}}, {{Category: 2, Priority: 64}},
		{{Category: 1, Priority: 65}, {Category: 2, Priority: 64}}, {{Category: 2, Priority: 126}, {Category: 1, Priority: 127}},
		{{Category: 2, Priority: 66}, {Category: 2, Priority: 65}}, {{Category: 1, Priority: 66}, {Category: 1, Priority: 67}},
		{{Category: 1, Priority: 90}, {Category: 2, Priority: 70}, {Category: 1, Priority: 80}, {Category: 2, Priority: 79}},
	}, [][]api.IsrRow{
		{{Category: 2, Priority: 65}, {Category: 1, Priority: 64}}, {{Category: 1, Priority: 126}, {Category: 2, Priority: 127}},
		{{Category: 1, Priority: 65}, {Category: 2, Priority: 65}}, {{Category: 2, Priority: 65}, {Category: 2, Priority: 65}}, {{Category: 1, Priority: 65}, {Category: 1, Priority: 65}}, {{Category: 2, Priority: 65}, {Category: 1, Priority: 65}},
		{{Category: 1, Priority: 90}, {Category: 2, Priority: 70}, {Category: 1, Priority: 69}}, {{Category: 1, Priority: 90}, {Category: 2, Priority: 70}, {Category: 2, Priority: 91}},
		{{Category: 1, Priority: 90}, {Category: 2, Priority: 70}, {Category: 2, Priority: 71}, {Category: 1, Priority: 90}},
	})
}

// P9.2: each Isr's Own; none of category 1.
func TestCheckOfIsrOwn(t *testing.T) {
	good, bad := ownLists()
	for _, i := range []int{0, 2} {
		raw(t, "Own", func(x *api.Tables, v []int) { x.Isrs[i].Own = v }, good, append(bad, []int{6}, []int{0, 6}, []int{3, 6}, []int{6, 7}))
	}
	for _, i := range []int{1, 3} {
		raw(t, "Own of category 1", func(x *api.Tables, v []int) {
			x.Isrs[i].Own = v
			for id := range x.Resources {
				x.Resources[id].Ceiling = 127
			}
		}, [][]int{nil, {}}, append(bad, good[2:]...))
	}
	for i, priority := range []int{65, 0, 80} {
		if priority > 0 {
			own := func(x *api.Tables, v int) { x.Resources[5].Ceiling, x.Isrs[i].Own = v, []int{5} }
			raw(t, "a ceiling", own, []int{priority, priority + 1, 126, 127}, []int{-1, 0, 63, priority - 1, 128})
			raw(t, "an internal one", func(x *api.Tables, v int) { own(x, v); x.Resources[5].Internal = true }, nil, []int{priority, 127})
		}
	}
	raw(t, "RES_SCHEDULER's ceiling", func(x *api.Tables, v int) { x.Resources[6].Ceiling, x.Isrs[0].Own = v, []int{6} }, []int{65, 127}, []int{62, 64})
}

// P9.2: each Message's Kind, Length, From, Init, Queue, as in layer 7.
func TestCheckOfMessages(t *testing.T) {
	type row = api.MessageRow
	set := func(x *api.Tables, v row) { x.Messages = append(x.Messages, v) }
	var good, bad []row
	for _, length := range []int{1, 2, 4, 8} {
		good = append(good, row{Kind: 1, Length: length})
		bad = append(bad, row{Kind: 2, Length: length, From: 1}, row{Kind: 3, Length: length, From: 1, Queue: 1}, row{Kind: 1, Length: length, From: 1}, row{Kind: 1, Length: length, Init: 1}, row{Kind: 1, Length: length, Queue: 1})
	}
	for _, n := range far(-1, 3, 5, 6, 7, 9, 16, 64) {
		bad = append(bad, row{Kind: 1, Length: n}, row{Kind: 2, Length: n, From: 1}, row{Kind: 3, Length: n, From: 1, Queue: 1}, row{Kind: 1, Length: 1, From: n}, row{Kind: 1, Length: 1, Queue: n}, row{Kind: 2, From: 1, Queue: n})
		if n != 3 {
			bad = append(bad, row{Kind: api.MessageKind(n), From: 1, Queue: 1}, row{Kind: api.MessageKind(n), From: 1}, row{Kind: api.MessageKind(n), Length: 1})
		}
	}
	bad = append(bad, row{}, row{From: 1}, row{Length: 1}, row{Kind: 1}, row{Kind: 4, From: 1}, row{Kind: 4, Length: 1}, row{Kind: 1, Length: 1, Init: 1<<64 - 1})
	for queue := -1; queue <= 18; queue++ {
		if queue >= 1 && queue <= 16 {
			good = append(good, row{Kind: 3, From: 1, Queue: queue}, row{Kind: 3, From: 4, Queue: queue})
			bad = append(bad, row{Kind: 2, From: 1, Queue: queue}, row{Kind: 3, From: 1, Queue: queue, Init: 1}, row{Kind: 3, From: 4, Queue: queue, Init: 1<<64 - 1})
		} else {
			bad = append(bad, row{Kind: 3, From: 1, Queue: queue})
		}
	}
	for _, from := range far(-1, 0, 2, 3, 5, 6, 7, 8, 64) {
		bad = append(bad, row{Kind: 2, From: from}, row{Kind: 3, From: from, Queue: 1})
	}
	good = append(good, row{Kind: 2, From: 1}, row{Kind: 2, From: 4})
	cell(t, "Message", set, good, bad)
	cell(t, "two kinds", func(x *api.Tables, v api.MessageKind) { x.Messages[1].Kind = v }, []api.MessageKind{1}, []api.MessageKind{0, 2, 3, 4})
}

// P9.2, Init: at most MaxNumber, and below 256 to the power of the sent one's Length; the sent one may stand ahead or behind.
func TestCheckOfInits(t *testing.T) {
	for length, most := range map[int]uint64{1: 255, 2: 65535, 4: 4294967295, 8: 4294967295} {
		for _, init := range []uint64{0, 1, 254, 255, 256, 65534, 65535, 65536, 1<<24 - 1, 1 << 24, 1<<32 - 1, 1 << 32, 1<<32 + 1, 1 << 40, 1 << 56, 1<<63 - 1, 1 << 63, 1<<64 - 1} {
			for place := range 2 {
				x := smallTables()
				x.Messages = []api.MessageRow{{Kind: 1, Length: length}, {Kind: 1, Length: length}}
				x.Messages[place] = api.MessageRow{Kind: 2, From: 1 - place, Init: init}
				if init <= most {
					taken(t, "Init", x)
				} else {
					spoilt(t, "Init", x)
				}
			}
		}
	}
	for _, length := range far(-1, 0, 3, 5, 6, 7, 9, 16) {
		for place := range 2 {
			x := smallTables()
			x.Messages = []api.MessageRow{{Kind: 1, Length: length}, {Kind: 1, Length: length}}
			x.Messages[place] = api.MessageRow{Kind: 2, From: 1 - place, Init: 1}
			spoilt(t, "Init of a sent one that may not be", x)
		}
	}
}

// P9.2: Depth, Frames, Errors and Callbacks are as P9.1 says of these rows.
func TestCheckOfRoom(t *testing.T) {
	for want, set := range map[[2]int]func(x *api.Tables, v int){
		{0, 3}: func(x *api.Tables, v int) { x.Depth = v },
		{1, 8}: func(x *api.Tables, v int) { x.Frames = v },
		{2, 3}: func(x *api.Tables, v int) { x.Errors = v },
		{3, 2}: func(x *api.Tables, v int) { x.Callbacks = v },
	} {
		bad := far(-1, 0, 1, 4, 5, 6, 7, 9, want[1]-1, want[1]+1)
		raw(t, "room", set, []int{want[1]}, bad)
	}
	rows := func(turn func(x *api.Tables), good [4]int) {
		t.Helper()
		for i := range 4 {
			for by := -2; by <= 2; by++ {
				x := wholeTables()
				turn(&x)
				room := good
				room[i] += by
				x.Depth, x.Frames, x.Errors, x.Callbacks = room[0], room[1], room[2], room[3]
				if by == 0 {
					taken(t, "room", x)
				} else {
					spoilt(t, "room", x)
				}
			}
		}
	}
	rows(func(x *api.Tables) {}, [4]int{3, 8, 3, 2})
	rows(func(x *api.Tables) { x.Alarms = nil }, [4]int{3, 8, 3, 1})
	rows(func(x *api.Tables) { x.Messages = nil }, [4]int{3, 8, 3, 1})
	rows(func(x *api.Tables) { x.Alarms, x.Messages, x.Isrs = nil, nil, nil }, [4]int{3, 4, 2, 0})
	rows(func(x *api.Tables) { x.Alarms = x.Alarms[:3]; x.Messages = x.Messages[:6] }, [4]int{3, 8, 2, 2})
	rows(func(x *api.Tables) { x.Alarms = append(x.Alarms, x.Alarms[2], x.Alarms[2]) }, [4]int{3, 8, 5, 4})
	rows(func(x *api.Tables) { x.Messages = append(x.Messages, x.Messages[6]) }, [4]int{3, 8, 4, 2})
	rows(func(x *api.Tables) { x.Messages = append(x.Messages, x.Messages[5]) }, [4]int{3, 8, 3, 3})
	rows(func(x *api.Tables) { x.Messages = append(x.Messages, x.Messages[1], x.Messages[1], x.Messages[1]) }, [4]int{3, 8, 3, 2})
	rows(func(x *api.Tables) { x.Isrs = x.Isrs[:1] }, [4]int{3, 5, 3, 2})
	rows(func(x *api.Tables) { shelves(x, 9) }, [4]int{1, 4, 2, 0})
	rows(func(x *api.Tables) { shelves(x, 9, 8) }, [4]int{2, 4, 2, 0})
}
