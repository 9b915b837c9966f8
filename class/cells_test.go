package class_test

import (
	"math"
	"slices"
	"strconv"
	"testing"

	"tappet/api"
)

// turn is what is turned in an ordinary configuration, and the verdict on it then.
type turn struct {
	what string
	make func(c *api.Config)
	want api.Verdict
}

// fault is a turn behind which the configuration may not be.
func fault(what string, code api.Errno, kind string, id int, make func(c *api.Config)) turn {
	return turn{what, make, api.Verdict{Code: code, Kind: kind, ID: id}}
}

// fine is a turn behind which the configuration may be.
func fine(what string, make func(c *api.Config)) turn { return turn{what, make, api.Verdict{}} }

// toldEach holds the verdict behind each turn against the one that must be.
func toldEach(t *testing.T, l []turn) {
	t.Helper()
	for _, x := range l {
		told(t, x.what, turned(x.make), x.want)
	}
}

// edges are turns of one number from its least to its greatest value, and beyond them.
func edges[N int | uint32 | uint64](what string, code api.Errno, kind string, id int, least, most N, set func(c *api.Config, v N)) []turn {
	var l []turn
	for _, v := range []N{least, least + 1, most - 1, most} {
		l = append(l, fine(what, func(c *api.Config) { set(c, v) }))
	}
	beyond := []N{most + 1, most + 2, most << 1, most<<1 + 1}
	if least > 0 {
		beyond = append(beyond, least-1, 0)
	}
	if N(0)-1 < 0 {
		lowest, highest := int64(math.MinInt64), int64(math.MaxInt64)
		beyond = append(beyond, N(0)-1, N(lowest), N(highest), N(int64(least)+1<<32), N(int64(least)+1<<8-1<<40))
	}
	for _, v := range beyond {
		l = append(l, fault(what+" beyond", code, kind, id, func(c *api.Config) { set(c, v) }))
	}
	return l
}

// lists are turns of a list of ids of a kind of which there are n objects, at least three: such as rise and such as do not.
func lists(what, kind string, id, n int, set func(c *api.Config, ids []int)) []turn {
	var l []turn
	for _, ids := range [][]int{{1, 0}, {0, 0}, {n}, {-1}, {0, n}, {-1, 0}, {0, 1, 1}, {0, 2, 1}, {n - 1, n}, {0, -1}, {2, 0}, {1, 2, 0}, {math.MinInt}, {math.MaxInt}, {1 << 32}, {1, 1, 2}, {0, 1, 0}, {n - 1, 0}} {
		l = append(l, fault(what, api.ErrRef, kind, id, func(c *api.Config) { set(c, ids) }))
	}
	return l
}

// rowsOf are all rising lists of the ids below n.
func rowsOf(n int) [][]int {
	l := [][]int{{}}
	for id := range n {
		for _, ids := range slices.Clone(l) {
			l = append(l, append(slices.Clone(ids), id))
		}
	}
	return l
}

// P7.1: an ordinary configuration, and the least one, may be.
func TestOrdinary(t *testing.T) {
	may(t, "whole", whole())
	may(t, "small", small())
	c := whole()
	c.OS = api.Os{Name: "o", Startup: true, Error: true, Shutdown: true, PreTask: true, PostTask: true, Service: true, Params: true, Schedule: true}
	may(t, "all hooks", c)
}

// many makes n things out of one, each with a name of its own.
func many[T any](n int, x T, name func(x *T, s string)) []T {
	l := make([]T, n)
	for i := range l {
		l[i] = x
		name(&l[i], "x"+strconv.Itoa(i))
	}
	return l
}

// crowd sets how many objects of a kind there are, none of them at fault, and clears what refers to them.
func crowd(c *api.Config, kind string, n int) {
	switch kind {
	case "APPMODE":
		c.Modes = many(n, "", func(x *string, s string) { *x = s })
	case "RESOURCE":
		c.Resources = many(n, api.Resource{Kind: api.ResStandard}, func(x *api.Resource, s string) { x.Name = s })
	case "EVENT":
		c.Events = many(n, api.Event{Mask: 1}, func(x *api.Event, s string) { x.Name = s })
	case "TASK":
		c.Tasks = many(n, api.Task{Activation: 1}, func(x *api.Task, s string) { x.Name = s })
	case "COUNTER":
		c.Counters = many(n, api.Counter{Max: 1, Base: 1, Min: 1}, func(x *api.Counter, s string) { x.Name = s })
	case "ALARM":
		c.Alarms = many(n, api.Alarm{Action: api.Action{Kind: api.ActTask}}, func(x *api.Alarm, s string) { x.Name = s })
	case "ISR":
		c.Isrs = many(n, api.Isr{Category: 2}, func(x *api.Isr, s string) { x.Name = s })
		for i := range c.Isrs {
			c.Isrs[i].Priority = 64 + i%64
		}
	case "MESSAGE":
		c.Messages = many(n, api.Message{Kind: api.MsgSend, Length: 1}, func(x *api.Message, s string) { x.Name = s })
	}
}

// P7.1: how many objects of each kind there may be: ErrOver with the ID 0.
func TestHowMany(t *testing.T) {
	for _, x := range []struct {
		kind        string
		least, most int
	}{
		{"APPMODE", 1, 8}, {"RESOURCE", 0, 64}, {"EVENT", 0, 256}, {"TASK", 1, 256}, {"COUNTER", 0, 16}, {"ALARM", 0, 64}, {"ISR", 0, 32}, {"MESSAGE", 0, 64},
	} {
		for _, n := range []int{0, 1, x.least, x.most / 2, x.most - 1, x.most, x.most + 1, x.most + 2, 2 * x.most, 300, 1000} {
			c := small()
			crowd(&c, "COUNTER", 1)
			crowd(&c, x.kind, n)
			want := api.Verdict{}
			if n < x.least || n > x.most {
				want = api.Verdict{Code: api.ErrOver, Kind: x.kind}
			}
			told(t, x.kind+" "+strconv.Itoa(n), c, want)
		}
	}
}

// P7.1: too many is told ahead of what is wrong with the objects of the kind, and of those of all kinds behind it.
func TestHowManyIsAskedFirst(t *testing.T) {
	for _, kind := range words()[2:] {
		c := small()
		crowd(&c, kind, 1000)
		switch kind {
		case "APPMODE":
			c.Modes[0] = ""
		case "RESOURCE":
			c.Resources[0] = api.Resource{}
		case "EVENT":
			c.Events[0] = api.Event{}
		case "TASK":
			c.Tasks[0] = api.Task{}
		case "COUNTER":
			c.Counters[0] = api.Counter{}
		case "ALARM":
			c.Alarms[0] = api.Alarm{}
		case "ISR":
			c.Isrs[0] = api.Isr{}
		case "MESSAGE":
			c.Messages[0] = api.Message{}
		}
		told(t, kind, c, api.Verdict{Code: api.ErrOver, Kind: kind})
	}
}

// rename sets the name of an object of a kind.
func rename(c *api.Config, kind string, id int, name string) {
	switch kind {
	case "CPU":
		c.CPU = name
	case "OS":
		c.OS.Name = name
	case "APPMODE":
		c.Modes[id] = name
	case "RESOURCE":
		c.Resources[id].Name = name
	case "EVENT":
		c.Events[id].Name = name
	case "TASK":
		c.Tasks[id].Name = name
	case "COUNTER":
		c.Counters[id].Name = name
	case "ALARM":
		c.Alarms[id].Name = name
	case "ISR":
		c.Isrs[id].Name = name
	case "MESSAGE":
		c.Messages[id].Name = name
	}
}

// P7.1: names of objects: ErrNames with the object's kind and id, if it is none.
func TestNames(t *testing.T) {
	for _, kind := range words() {
		ids := []int{0, 1}
		if kind == "CPU" || kind == "OS" {
			ids = []int{0}
		}
		for _, id := range ids {
			for _, name := range goodNames() {
				c := whole()
				rename(&c, kind, id, name)
				may(t, kind+" "+name, c)
			}
			for _, name := range badNames() {
				c := whole()
				rename(&c, kind, id, name)
				told(t, kind+" "+name, c, api.Verdict{Code: api.ErrNames, Kind: kind, ID: id})
			}
		}
	}
}

// P7.1: each byte, as the first of a name and behind it.
func TestBytesOfNames(t *testing.T) {
	for b := range 256 {
		letter := 'a' <= b && b <= 'z' || 'A' <= b && b <= 'Z' || b == '_'
		wrong := api.Verdict{Code: api.ErrNames, Kind: "OS"}
		for name, good := range map[string]bool{string([]byte{byte(b)}): letter, string([]byte{'a', byte(b)}): letter || '0' <= b && b <= '9', string([]byte{'a', byte(b), 'a'}): letter || '0' <= b && b <= '9'} {
			c := small()
			c.OS.Name = name
			want := wrong
			if good {
				want = api.Verdict{}
			}
			told(t, "byte", c, want)
		}
	}
}

// P7.1: a name twice in one kind is told of the greater id; in two kinds it may stand.
func TestNamesTwice(t *testing.T) {
	for _, kind := range words()[2:] {
		for _, pair := range [][2]int{{0, 1}, {1, 0}, {0, 2}, {2, 0}, {1, 2}, {2, 1}} {
			c := whole()
			if kind == "COUNTER" {
				c.Counters = append(c.Counters, api.Counter{Name: "k2", Max: 1, Base: 1, Min: 1})
			}
			rename(&c, kind, pair[0], "same")
			rename(&c, kind, pair[1], "same")
			told(t, kind, c, api.Verdict{Code: api.ErrNames, Kind: kind, ID: max(pair[0], pair[1])})
			rename(&c, kind, pair[1], "Same")
			may(t, kind, c)
		}
	}
	c := whole()
	for _, kind := range words() {
		rename(&c, kind, 0, "one")
	}
	may(t, "one name in all kinds", c)
}

// P7.1, RESOURCE: kinds and links.
func TestResources(t *testing.T) {
	set := func(id int, kind api.ResourceKind, link int) func(c *api.Config) {
		return func(c *api.Config) {
			c.Resources[id].Kind, c.Resources[id].Link = kind, link
		}
	}
	both := func(l ...func(c *api.Config)) func(c *api.Config) {
		return func(c *api.Config) {
			for _, f := range l {
				f(c)
			}
		}
	}
	const std, linked, internal = api.ResStandard, api.ResLinked, api.ResInternal
	l := []turn{
		fine("linked to the next", set(0, linked, 1)),
		fine("standard", set(0, std, 0)),
		fine("a row of links", both(set(0, linked, 2), set(2, linked, 3), set(3, linked, 1))),
		fine("a row of links to the first", both(set(0, std, 0), set(1, linked, 0), set(2, linked, 1), set(3, linked, 2))),
		fault("round of one", api.ErrRule, "RESOURCE", 3, both(set(0, std, 0), set(3, linked, 3))),
		fault("round of two", api.ErrRule, "RESOURCE", 0, set(3, linked, 0)),
		fault("round further on", api.ErrRule, "RESOURCE", 0, set(3, linked, 3)),
		fault("round of three", api.ErrRule, "RESOURCE", 0, both(set(0, linked, 1), set(1, linked, 2), set(2, linked, 0), set(3, std, 0))),
		fault("to an internal one", api.ErrRule, "RESOURCE", 0, set(0, linked, 2)),
		fault("to a linked one that stands for an internal one", api.ErrRule, "RESOURCE", 0, set(3, linked, 4)),
		fault("to one of no kind", api.ErrRule, "RESOURCE", 0, set(1, 0, 0)),
		fault("to one of no kind 4", api.ErrRule, "RESOURCE", 0, set(3, 4, 0)),
		fault("to a linked one whose link is no id", api.ErrRule, "RESOURCE", 0, set(3, linked, 5)),
		fault("to a linked one whose link is below 0", api.ErrRule, "RESOURCE", 0, set(3, linked, -1)),
	}
	for _, id := range []int{1, 2} { // resources for which none ahead stands
		first := set(0, std, 0)
		for _, kind := range []api.ResourceKind{0, 4, -1, 5, math.MinInt, math.MaxInt, 1 << 32, 1<<32 + 1} {
			l = append(l, fault("no kind", api.ErrValue, "RESOURCE", id, both(first, set(id, kind, 0))), fault("no kind, with a link", api.ErrValue, "RESOURCE", id, both(first, set(id, kind, 1))))
		}
		for _, link := range []int{1, -1, 3, 5, math.MinInt, math.MaxInt, 1 << 32} {
			l = append(l, fault("a link of a standard one", api.ErrValue, "RESOURCE", id, both(first, set(id, std, link))), fault("a link of an internal one", api.ErrValue, "RESOURCE", id, both(first, set(id, internal, link))))
		}
		for _, link := range []int{5, 6, -1, math.MinInt, math.MaxInt, 1 << 32} {
			l = append(l, fault("a link that is no id", api.ErrRef, "RESOURCE", id, both(first, set(id, linked, link))))
		}
	}
	toldEach(t, l)
}

// P7.1, RESOURCE: rows of links as long as may be, that end at a standard one, at an internal one, and that go round.
func TestLongRowsOfLinks(t *testing.T) {
	for _, last := range []api.Resource{{Kind: api.ResStandard}, {Kind: api.ResInternal}, {Kind: api.ResLinked, Link: 0}, {Kind: api.ResLinked, Link: 63}, {Kind: api.ResLinked, Link: 64}} {
		c := small()
		crowd(&c, "RESOURCE", 64)
		for i := range 63 {
			c.Resources[i].Kind, c.Resources[i].Link = api.ResLinked, i+1
		}
		last.Name = "last"
		c.Resources[63] = last
		want := api.Verdict{Code: api.ErrRule, Kind: "RESOURCE"}
		if last.Kind == api.ResStandard {
			want = api.Verdict{}
		}
		told(t, "forth", c, want)
		slices.Reverse(c.Resources)
		for i := range c.Resources {
			if c.Resources[i].Kind == api.ResLinked {
				c.Resources[i].Link = 63 - c.Resources[i].Link
			}
		}
		if last.Link == 64 {
			want.Code = api.ErrRef
		}
		if last.Kind == api.ResInternal {
			want.ID = 1
		}
		told(t, "back", c, want)
	}
}

// P7.1, EVENT: a mask is some; whether it was to be found is not asked.
func TestEvents(t *testing.T) {
	for id := range whole().Events {
		toldEach(t, []turn{
			fault("no mask", api.ErrValue, "EVENT", id, func(c *api.Config) { c.Events[id].Mask = 0 }),
			fault("no mask, to be found", api.ErrValue, "EVENT", id, func(c *api.Config) { c.Events[id] = api.Event{Name: "x", Auto: true} }),
			fine("turned", func(c *api.Config) { c.Events[id].Auto = !c.Events[id].Auto }),
		})
	}
	for bit := range 32 {
		c := small()
		c.Events = []api.Event{{Name: "e", Mask: 1 << bit}, {Name: "f", Mask: math.MaxUint32 - 1<<bit}, {Name: "g", Mask: math.MaxUint32}}
		may(t, "one bit", c)
		c.Tasks[0].Events = []int{0, 1}
		may(t, "all bits of one task", c)
		c.Tasks[0].Events = []int{0, 2}
		told(t, "a bit in common", c, api.Verdict{Code: api.ErrRule, Kind: "TASK"})
	}
}

// P7.1, TASK: numbers.
func TestTaskNumbers(t *testing.T) {
	for _, id := range []int{0, 3} {
		toldEach(t, edges("Priority", api.ErrValue, "TASK", id, 0, 63, func(c *api.Config, v int) { c.Tasks[id].Priority = v }))
		toldEach(t, edges("Activation", api.ErrValue, "TASK", id, 1, 255, func(c *api.Config, v int) { c.Tasks[id].Activation = v }))
	}
	toldEach(t, edges("Priority of an extended one", api.ErrValue, "TASK", 1, 0, 63, func(c *api.Config, v int) { c.Tasks[1].Priority = v }))
}

// P7.1, TASK: lists that do not rise.
func TestTaskLists(t *testing.T) {
	for id := range whole().Tasks {
		toldEach(t, lists("Auto", "TASK", id, 3, func(c *api.Config, ids []int) { c.Tasks[id].Auto = ids }))
		toldEach(t, lists("Resources", "TASK", id, 5, func(c *api.Config, ids []int) { c.Tasks[id].Resources = ids }))
		toldEach(t, lists("Events", "TASK", id, 4, func(c *api.Config, ids []int) { c.Tasks[id].Events = ids }))
		toldEach(t, lists("Messages", "TASK", id, 7, func(c *api.Config, ids []int) { c.Tasks[id].Messages = ids }))
	}
	c := small()
	c.Tasks[0].Resources = []int{0}
	told(t, "of none", c, api.Verdict{Code: api.ErrRef, Kind: "TASK"})
}

// P7.1, TASK: every rising list of modes, of messages and of resources may stand, but with two internal ones; every one of events with masks apart.
func TestTaskListsThatRise(t *testing.T) {
	for _, ids := range rowsOf(7) {
		may(t, "Messages", turned(func(c *api.Config) { c.Tasks[3].Messages = ids }))
	}
	for _, ids := range rowsOf(3) {
		may(t, "Auto", turned(func(c *api.Config) { c.Tasks[3].Auto = ids }))
	}
	for _, ids := range rowsOf(5) {
		want := api.Verdict{}
		if slices.Contains(ids, 2) && slices.Contains(ids, 4) {
			want = api.Verdict{Code: api.ErrRule, Kind: "TASK", ID: 3}
		}
		told(t, "Resources", turned(func(c *api.Config) { c.Tasks[3].Resources = ids }), want)
	}
	for _, ids := range rowsOf(4) {
		want := api.Verdict{}
		if slices.Contains(ids, 1) && slices.Contains(ids, 2) {
			want = api.Verdict{Code: api.ErrRule, Kind: "TASK", ID: 3}
		}
		told(t, "Events", turned(func(c *api.Config) { c.Tasks[3].Events, c.Tasks[3].Activation = ids, 1 }), want)
		if len(ids) > 0 {
			told(t, "Events of two activations", turned(func(c *api.Config) { c.Tasks[3].Events, c.Tasks[3].Activation = ids, 2 }), api.Verdict{Code: api.ErrRule, Kind: "TASK", ID: 3})
		}
	}
}

// P7.1, TASK: 32 events at most, told with the task's id, ahead of what is ErrRule.
func TestTaskEvents(t *testing.T) {
	for n := 30; n <= 40; n++ {
		c := small()
		c.Tasks = append(c.Tasks, api.Task{Name: "u", Activation: 1})
		for i := range 256 {
			c.Events = append(c.Events, api.Event{Name: "e" + strconv.Itoa(i), Mask: 1 << (i % 32)})
		}
		for i := range n {
			c.Tasks[1].Events = append(c.Tasks[1].Events, i+7)
		}
		want := api.Verdict{}
		if n > 32 {
			want = api.Verdict{Code: api.ErrOver, Kind: "TASK", ID: 1}
		}
		told(t, "events", c, want)
		c.Tasks[1].Activation = 2
		if n <= 32 {
			want = api.Verdict{Code: api.ErrRule, Kind: "TASK", ID: 1}
		}
		told(t, "events and activations", c, want)
		c.Tasks[1].Events[n-1] = 300
		told(t, "events and no id", c, api.Verdict{Code: api.ErrRef, Kind: "TASK", ID: 1})
	}
}

// P7.1, TASK: a linked resource that stands for a standard one is none of the internal ones; one internal one may be named by several tasks.
func TestInternalOfTasks(t *testing.T) {
	toldEach(t, []turn{
		fine("one of two tasks", func(c *api.Config) { c.Tasks[1].Resources = []int{2} }),
		fine("linked ones", func(c *api.Config) { c.Tasks[0].Resources = []int{0, 1, 3, 4} }),
		fault("two", api.ErrRule, "TASK", 0, func(c *api.Config) { c.Tasks[0].Resources = []int{2, 4} }),
		fault("two among others", api.ErrRule, "TASK", 1, func(c *api.Config) { c.Tasks[1].Resources = []int{0, 1, 2, 3, 4} }),
	})
}

// P7.1, COUNTER.
func TestCounters(t *testing.T) {
	l := edges("Max", api.ErrValue, "COUNTER", 1, 9, api.MaxTick, func(c *api.Config, v uint32) {
		c.Counters[1].Max = v
		c.Alarms[2].Time, c.Alarms[3].Time = 1, 1
	})
	l = append(l, edges("Base", api.ErrValue, "COUNTER", 0, 1, api.MaxTick, func(c *api.Config, v uint32) { c.Counters[0].Base = v })...)
	l = append(l, edges("Min", api.ErrValue, "COUNTER", 1, 1, api.MaxTick, func(c *api.Config, v uint32) {
		c.Counters[1].Min = v
		c.Alarms[3].Cycle = 0
	})...)
	l = append(l, edges("Min below Max", api.ErrValue, "COUNTER", 1, 1, 1000, func(c *api.Config, v uint32) {
		c.Counters[1].Max, c.Counters[1].Min = 1000, v
		c.Alarms[3].Time, c.Alarms[3].Cycle = 1, 0
	})...)
	l = append(l,
		fault("Max and Min beyond", api.ErrValue, "COUNTER", 0, func(c *api.Config) { c.Counters[0] = api.Counter{Name: "k", Max: 1 << 31, Base: 1, Min: 1 << 31} }),
		fault("all 0", api.ErrValue, "COUNTER", 0, func(c *api.Config) { c.Counters[0] = api.Counter{Name: "k"} }),
		fault("greatest", api.ErrValue, "COUNTER", 0, func(c *api.Config) { c.Counters[0].Base = math.MaxUint32 }),
	)
	toldEach(t, l)
}
