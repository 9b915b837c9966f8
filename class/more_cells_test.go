package class_test

import (
	"math"
	"slices"
	"testing"

	"tappet/api"
)

// P7.1, ALARM: its counter, its modes.
func TestAlarmRefs(t *testing.T) {
	for id := range whole().Alarms {
		for _, counter := range []int{-1, 2, 3, math.MinInt, math.MaxInt, 1 << 32} {
			toldEach(t, []turn{fault("Counter", api.ErrRef, "ALARM", id, func(c *api.Config) { c.Alarms[id].Counter = counter })})
		}
		toldEach(t, lists("Auto", "ALARM", id, 3, func(c *api.Config, ids []int) { c.Alarms[id].Auto = ids }))
	}
	for _, ids := range rowsOf(3)[1:] {
		may(t, "Auto", turned(func(c *api.Config) { c.Alarms[2].Auto = ids }))
	}
	c := small()
	c.Alarms = []api.Alarm{{Name: "a", Action: api.Action{Kind: api.ActTask}}}
	told(t, "no counter", c, api.Verdict{Code: api.ErrRef, Kind: "ALARM"})
}

// P7.1, ALARM: Time and Cycle against its own counter, and of one that is not set at a start.
func TestAlarmTimes(t *testing.T) {
	counter := func(c *api.Config, least, most uint32) { c.Counters[1].Min, c.Counters[1].Max = least, most }
	const kind = "ALARM"
	l := edges("Time", api.ErrValue, kind, 2, 1, 5000, func(c *api.Config, v uint32) {
		counter(c, 10, 5000)
		c.Alarms[3].Time, c.Alarms[3].Cycle = 1, 0
		c.Alarms[2].Time = v
	})
	cycles := func(c *api.Config, v uint32) {
		counter(c, 10, 5000)
		c.Alarms[3].Time, c.Alarms[3].Cycle = 1, v
	}
	for _, x := range edges("Cycle", api.ErrValue, kind, 3, 10, 5000, cycles) {
		c := turned(x.make)
		if c.Alarms[3].Cycle == 0 {
			x.want = api.Verdict{}
		}
		l = append(l, x)
	}
	for _, v := range []uint32{1, 2, 9, 10, api.MaxTick, 1 << 31, math.MaxUint32} {
		l = append(l,
			fault("Time without a mode", api.ErrValue, kind, 1, func(c *api.Config) { c.Alarms[1].Time = v }),
			fault("Cycle without a mode", api.ErrValue, kind, 1, func(c *api.Config) { c.Alarms[1].Cycle = v }),
			fault("both without a mode", api.ErrValue, kind, 1, func(c *api.Config) { c.Alarms[1].Time, c.Alarms[1].Cycle = v, v }),
			fault("modes gone", api.ErrValue, kind, 0, func(c *api.Config) { c.Alarms[0].Auto = []int{} }),
		)
	}
	l = append(l,
		fault("Time of the other counter", api.ErrValue, kind, 3, func(c *api.Config) { c.Alarms[3].Counter, c.Alarms[3].Cycle = 0, 0 }),
		fault("Cycle of the other counter", api.ErrValue, kind, 3, func(c *api.Config) { c.Alarms[3].Counter, c.Alarms[3].Time = 0, 1 }),
		fine("the other counter", func(c *api.Config) { c.Alarms[3].Counter, c.Alarms[3].Time, c.Alarms[3].Cycle = 0, 1, 1 }),
	)
	toldEach(t, l)
}

// P7.1, actions: of an alarm and of a received message, each kind with all that it may have, and with what it may not.
func TestActions(t *testing.T) {
	alarm := func(c *api.Config, a api.Action) { c.Alarms[1].Action = a }
	message := func(c *api.Config, a api.Action) { c.Messages[2].Action = a }
	unqueued := func(c *api.Config, a api.Action) { c.Messages[3].Action = a }
	for _, x := range []struct {
		kind        string
		id          int
		least, most api.ActionKind
		set         func(c *api.Config, a api.Action)
	}{{"ALARM", 1, 1, 3, alarm}, {"MESSAGE", 2, 0, 4, message}, {"MESSAGE", 3, 0, 4, unqueued}} {
		for _, kind := range []api.ActionKind{0, 1, 2, 3, 4, -1, 5, 6, math.MinInt, math.MaxInt, 1 << 32, 1<<32 + 1} {
			for _, task := range []int{0, 1, 2, 3, 4, -1, math.MinInt, math.MaxInt, 1 << 32} {
				for _, event := range []int{0, 1, 2, 3, 4, -1, math.MinInt, math.MaxInt, 1 << 32} {
					for _, name := range []string{"", "f", "1", longest(), longest() + "z"} {
						a := api.Action{Kind: kind, Task: task, Event: event, Name: name}
						want := actionTold(a, x.least, x.most)
						if want.Code != api.OK {
							want.Kind, want.ID = x.kind, x.id
						}
						told(t, "action", turned(func(c *api.Config) { x.set(c, a) }), want)
					}
				}
			}
		}
	}
}

// actionTold is what is said of an action in an ordinary configuration, which has four tasks, the second with the events 0, 1, 3, the third with 0, 2, and four events.
func actionTold(a api.Action, least, most api.ActionKind) api.Verdict {
	owned := a.Task == 1 && a.Event != 2 || a.Task == 2 && (a.Event == 0 || a.Event == 2)
	switch none := a.Name == ""; {
	case a.Kind < least || a.Kind > most:
		return api.Verdict{Code: api.ErrValue}
	case a.Kind == 0 && (a.Task != 0 || a.Event != 0 || !none), a.Kind == 1 && (a.Event != 0 || !none), a.Kind == 2 && !none, a.Kind > 2 && (a.Task != 0 || a.Event != 0):
		return api.Verdict{Code: api.ErrValue}
	case a.Task < 0 || a.Task > 3 || a.Event < 0 || a.Event > 3:
		return api.Verdict{Code: api.ErrRef}
	case a.Kind == 2 && !owned:
		return api.Verdict{Code: api.ErrRule}
	case a.Kind > 2 && a.Name != "f" && len(a.Name) != 63:
		return api.Verdict{Code: api.ErrNames}
	}
	return api.Verdict{}
}

// P7.1, actions: their names.
func TestNamesOfActions(t *testing.T) {
	for _, kind := range []api.ActionKind{api.ActCallback, api.ActFlag} {
		for _, name := range goodNames() {
			may(t, name, turned(func(c *api.Config) { c.Messages[0].Action = api.Action{Kind: kind, Name: name} }))
		}
		for _, name := range badNames() {
			toldEach(t, []turn{fault(name, api.ErrNames, "MESSAGE", 0, func(c *api.Config) { c.Messages[0].Action = api.Action{Kind: kind, Name: name} })})
		}
	}
	for _, name := range goodNames() {
		may(t, name, turned(func(c *api.Config) { c.Alarms[2].Action.Name = name }))
	}
	for _, name := range badNames() {
		toldEach(t, []turn{fault(name, api.ErrNames, "ALARM", 2, func(c *api.Config) { c.Alarms[2].Action.Name = name })})
	}
	may(t, "two routines and a flag of one name", turned(func(c *api.Config) {
		c.Alarms[2].Action.Name, c.Messages[0].Action.Name, c.Messages[5].Action.Name = "f", "f", "f"
	}))
}

// P7.1, actions: an event is no id where there are none, and is not asked for by the other kinds.
func TestActionsWithoutEvents(t *testing.T) {
	c := small()
	c.Counters = []api.Counter{{Name: "k", Max: 1, Base: 1, Min: 1}}
	c.Alarms = []api.Alarm{{Name: "a", Action: api.Action{Kind: api.ActTask}}, {Name: "b", Action: api.Action{Kind: api.ActCallback, Name: "f"}}}
	may(t, "no events", c)
	c.Alarms[1].Action = api.Action{Kind: api.ActEvent}
	told(t, "no events", c, api.Verdict{Code: api.ErrRef, Kind: "ALARM", ID: 1})
	c.Events = []api.Event{{Name: "e", Mask: 1}}
	told(t, "a basic task", c, api.Verdict{Code: api.ErrRule, Kind: "ALARM", ID: 1})
	c.Tasks[0].Events = []int{0}
	may(t, "an extended task", c)
}

// P7.1, ISR: numbers.
func TestIsrNumbers(t *testing.T) {
	var l []turn
	for _, category := range []int{0, 3, -1, math.MinInt, math.MaxInt, 1<<32 + 1} {
		l = append(l, fault("Category", api.ErrValue, "ISR", 2, func(c *api.Config) { c.Isrs[2].Category = category }))
	}
	alone := func(category int) func(c *api.Config, v int) {
		return func(c *api.Config, v int) {
			c.Isrs = []api.Isr{{Name: "i", Category: category, Priority: v}}
		}
	}
	l = append(l, edges("Priority", api.ErrValue, "ISR", 0, 64, 127, alone(1))...)
	l = append(l, edges("Priority", api.ErrValue, "ISR", 0, 64, 127, alone(2))...)
	l = append(l, fault("Priority of a task", api.ErrValue, "ISR", 2, func(c *api.Config) { c.Isrs[2].Priority = 63 }))
	toldEach(t, l)
}

// P7.1, ISR: its lists, of both categories.
func TestIsrLists(t *testing.T) {
	for id := range whole().Isrs {
		toldEach(t, lists("Resources", "ISR", id, 5, func(c *api.Config, ids []int) { c.Isrs[id].Resources = ids }))
		toldEach(t, lists("Messages", "ISR", id, 7, func(c *api.Config, ids []int) { c.Isrs[id].Messages = ids }))
	}
	for _, ids := range rowsOf(5) {
		want := api.Verdict{}
		if slices.Contains(ids, 2) || slices.Contains(ids, 4) {
			want = api.Verdict{Code: api.ErrRule, Kind: "ISR", ID: 2}
		}
		told(t, "Resources", turned(func(c *api.Config) { c.Isrs[2].Resources = ids }), want)
	}
	for _, ids := range rowsOf(7) {
		may(t, "Messages", turned(func(c *api.Config) { c.Isrs[2].Messages = ids }))
		want := api.Verdict{}
		if len(ids) > 0 {
			want = api.Verdict{Code: api.ErrRule, Kind: "ISR", ID: 3}
		}
		told(t, "Messages of category 1", turned(func(c *api.Config) { c.Isrs[3].Messages = ids }), want)
	}
	toldEach(t, []turn{
		fault("a resource of category 1", api.ErrRule, "ISR", 1, func(c *api.Config) { c.Isrs[1].Resources = []int{1} }),
		fault("an internal one of category 1", api.ErrRule, "ISR", 1, func(c *api.Config) { c.Isrs[1].Resources = []int{2} }),
		fault("both of category 1", api.ErrRule, "ISR", 3, func(c *api.Config) { c.Isrs[3].Resources, c.Isrs[3].Messages = []int{0}, []int{0} }),
		fine("empty ones of category 1", func(c *api.Config) { c.Isrs[1].Resources, c.Isrs[1].Messages = []int{}, []int{} }),
	})
}

// P7.1, ISR: each priority once, category 1 above category 2, in either order of ids.
func TestIsrOrder(t *testing.T) {
	for _, a := range []int{64, 65, 80, 126, 127} {
		for _, b := range []int{64, 65, 80, 126, 127} {
			for _, x := range []struct {
				first, second int
				may           bool
			}{{1, 1, a != b}, {2, 2, a != b}, {1, 2, a > b}, {2, 1, a < b}} {
				c := small()
				c.Isrs = []api.Isr{{Name: "i", Category: x.first, Priority: a}, {Name: "j", Category: x.second, Priority: b}}
				want := api.Verdict{Code: api.ErrRule, Kind: "ISR", ID: 1}
				if x.may {
					want = api.Verdict{}
				}
				told(t, "two", c, want)
			}
		}
	}
	for id := range 4 { // the one at fault is told, however many stand ahead
		c := small()
		for i, p := range []int{70, 71, 72, 73} {
			c.Isrs = append(c.Isrs, api.Isr{Name: string(rune('a' + i)), Category: 2, Priority: p})
		}
		c.Isrs = slices.Insert(c.Isrs, id, api.Isr{Name: "z", Category: 1, Priority: 72})
		told(t, "in the midst", c, api.Verdict{Code: api.ErrRule, Kind: "ISR", ID: max(id, 3)})
	}
}

// P7.1, MESSAGE: the fields of each kind.
func TestMessageFields(t *testing.T) {
	var l []turn
	for _, kind := range []api.MessageKind{0, 4, -1, 5, math.MinInt, math.MaxInt, 1 << 32, 1<<32 + 1} {
		l = append(l, fault("no kind", api.ErrValue, "MESSAGE", 6, func(c *api.Config) { c.Messages[6].Kind = kind }))
		l = append(l, fault("no kind, with a length", api.ErrValue, "MESSAGE", 6, func(c *api.Config) { c.Messages[6] = api.Message{Name: "x", Kind: kind, Length: 1} }))
		l = append(l, fault("no kind, with a queue", api.ErrValue, "MESSAGE", 6, func(c *api.Config) { c.Messages[6] = api.Message{Name: "x", Kind: kind, From: 1, Queue: 1} }))
	}
	for length := -2; length < 20; length++ {
		x := fault("Length of a sent one", api.ErrValue, "MESSAGE", 7, func(c *api.Config) {
			c.Messages = append(c.Messages, api.Message{Name: "x", Kind: api.MsgSend, Length: length})
		})
		if slices.Contains([]int{1, 2, 4, 8}, length) {
			x.want = api.Verdict{}
		}
		l = append(l, x)
	}
	for _, v := range []int{1, 2, 4, 8, 16, -1, math.MinInt, math.MaxInt, 1 << 32, 1<<32 + 1} {
		l = append(l,
			fault("Length of an unqueued one", api.ErrValue, "MESSAGE", 0, func(c *api.Config) { c.Messages[0].Length = v }),
			fault("Length of a queued one", api.ErrValue, "MESSAGE", 2, func(c *api.Config) { c.Messages[2].Length = v }),
			fault("Queue of a sent one", api.ErrValue, "MESSAGE", 4, func(c *api.Config) { c.Messages[4].Queue = v }),
			fault("Queue of an unqueued one", api.ErrValue, "MESSAGE", 3, func(c *api.Config) { c.Messages[3].Queue = v }),
			fault("From of a sent one", api.ErrValue, "MESSAGE", 4, func(c *api.Config) { c.Messages[4].From = v }),
			fault("Init of a sent one", api.ErrValue, "MESSAGE", 4, func(c *api.Config) { c.Messages[4].Init = uint64(v) }),
			fault("Init of a queued one", api.ErrValue, "MESSAGE", 5, func(c *api.Config) { c.Messages[5].Init = uint64(v) }),
		)
	}
	for _, v := range []int{0, 3, 5, 9, -1, math.MinInt, math.MaxInt, 1<<32 + 1} {
		l = append(l, fault("Length", api.ErrValue, "MESSAGE", 4, func(c *api.Config) {
			c.Messages[0].Init = 0
			c.Messages[4].Length = v
		}))
	}
	l = append(l, edges("Queue", api.ErrValue, "MESSAGE", 5, 1, 16, func(c *api.Config, v int) { c.Messages[5].Queue = v })...)
	toldEach(t, l)
}

// P7.1, MESSAGE: From of a received one is a sent one, which may stand ahead or behind.
func TestMessageFrom(t *testing.T) {
	for _, id := range []int{0, 2, 3, 5, 6} {
		for _, from := range []int{0, 1, 2, 3, 4, 5, 6, 7, -1, math.MinInt, math.MaxInt, 1<<32 + 1} {
			c := whole()
			c.Messages[id].From, c.Messages[id].Init = from, 0
			want := api.Verdict{Code: api.ErrRef, Kind: "MESSAGE", ID: id}
			if from == 1 || from == 4 {
				want = api.Verdict{}
			}
			told(t, "From", c, want)
		}
	}
}

// P7.1, MESSAGE: Init against the length of the sent one, whatever that is.
func TestMessageInit(t *testing.T) {
	values := []uint64{0, 1, 254, 255, 256, 257, 65535, 65536, 1<<24 - 1, 1 << 24, 1<<32 - 2, 1<<32 - 1, 1 << 32, 1<<32 + 1, 1 << 40, 1<<56 - 1, 1 << 56, 1 << 63, math.MaxUint64}
	for _, length := range []int{0, 1, 2, 3, 4, 5, 6, 7, 8, 9, 16, 64, -1, -8, math.MinInt, math.MaxInt, 1 << 32} {
		for _, v := range values {
			fits := v <= 4294967295
			if length >= 0 && length < 4 {
				fits = fits && v < 1<<(8*length)
			}
			for _, behind := range []bool{true, false} {
				c := small()
				c.Messages = []api.Message{{Name: "r", Kind: api.MsgUnqueued, From: 1, Init: v}, {Name: "s", Kind: api.MsgSend, Length: length}}
				want := api.Verdict{Code: api.ErrValue, Kind: "MESSAGE", ID: 1}
				if !behind {
					slices.Reverse(c.Messages)
					c.Messages[1].From = 0
				}
				sound := slices.Contains([]int{1, 2, 4, 8}, length)
				switch {
				case behind && !fits, !behind && !sound:
					want.ID = 0
				case sound && fits:
					want = api.Verdict{}
				}
				told(t, "Init", c, want)
			}
		}
	}
}

// P7.1, MESSAGE: the action of a sent one is none, all zero.
func TestActionOfSent(t *testing.T) {
	for _, a := range []api.Action{
		{Kind: 1}, {Kind: 1, Task: 1}, {Kind: 2, Task: 2, Event: 2}, {Kind: 3, Name: "f"}, {Kind: 4, Name: "f"}, {Kind: 5}, {Kind: -1},
		{Task: 1}, {Event: 1}, {Name: "f"}, {Task: -1}, {Event: -1}, {Name: "1"}, {Kind: 1, Task: 9}, {Kind: 2}, {Kind: 3}, {Kind: 3, Name: "1"},
	} {
		for _, id := range []int{1, 4} {
			toldEach(t, []turn{fault("sent", api.ErrValue, "MESSAGE", id, func(c *api.Config) { c.Messages[id].Action = a })})
		}
	}
}
