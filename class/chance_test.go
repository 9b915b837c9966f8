package class_test

import (
	"reflect"
	"slices"
	"strconv"
	"testing"

	"tappet/api"
	"tappet/class"
)

// follows holds all functions against the second reading of the chapter.
func follows(t *testing.T, c api.Config) api.Verdict {
	t.Helper()
	want := asTold(c)
	told(t, "by chance", c, want)
	if want == (api.Verdict{}) {
		if k, _ := class.Class(c); k != classOf(c) {
			t.Errorf("Class: %d, not %d: %s", k, classOf(c), short(c))
		}
	}
	for id := -1; id <= len(c.Resources); id++ {
		if r := class.Root(c, id); r != end(c, id) {
			t.Errorf("Root(%d): %d, not %d: %s", id, r, end(c, id), short(c))
		}
	}
	for id := -1; id <= len(c.Tasks); id++ {
		if x := class.Extended(c, id); x != (len(at(c.Tasks, id).Events) > 0) {
			t.Errorf("Extended(%d): %v: %s", id, x, short(c))
		}
	}
	return want
}

// P7.1, P7.2, P7.3: configurations that may be, made by chance, and the four classes among them.
func TestMade(t *testing.T) {
	m := &maker{1}
	classes := map[api.Class]int{}
	for range 3000 {
		c := m.config()
		if v := follows(t, c); v != (api.Verdict{}) {
			t.Fatalf("made %v: %s", v, short(c))
		}
		classes[classOf(c)]++
	}
	for _, k := range []api.Class{api.BCC1, api.BCC2, api.ECC1, api.ECC2} {
		if classes[k] < 20 {
			t.Errorf("class %d: made only %d", k, classes[k])
		}
	}
}

// P7.1: configurations of which one thing or several were turned by chance; every kind of verdict is among them.
func TestSpoilt(t *testing.T) {
	m := &maker{2}
	met := map[string]int{}
	for range 9000 {
		c := m.config()
		for range 1 + m.below(3) {
			m.spoil(&c)
		}
		kept := plain(c)
		v := follows(t, c)
		if !reflect.DeepEqual(kept, plain(c)) {
			t.Fatalf("changed: %s", short(c))
		}
		met[v.Kind+" "+strconv.Itoa(int(v.Code))]++
		if t.Failed() {
			return
		}
	}
	for kind, codes := range map[string][]int{
		"CPU": {72}, "OS": {72}, "APPMODE": {71, 72}, "RESOURCE": {70, 71, 72, 73, 74}, "EVENT": {71, 72, 74}, "TASK": {70, 71, 72, 73, 74},
		"COUNTER": {71, 72, 74}, "ALARM": {70, 71, 72, 73, 74}, "ISR": {70, 71, 72, 73, 74}, "MESSAGE": {70, 71, 72, 73, 74}, "": {0},
	} {
		for _, code := range codes {
			if n := met[kind+" "+strconv.Itoa(code)]; n < 3 {
				t.Errorf("%s %d: met only %d times", kind, code, n)
			}
		}
	}
}

// P7.1: any numbers, texts and lists at all.
func TestWild(t *testing.T) {
	m := &maker{3}
	for range 400 {
		c := m.config()
		for range 12 {
			m.spoil(&c)
		}
		follows(t, c)
		if t.Failed() {
			return
		}
	}
}

// singles are turns behind which one thing is not so, one for each thing that P7.1's table says of a kind.
func singles() []turn {
	l := []turn{
		fault("CPU", api.ErrNames, "CPU", 0, func(c *api.Config) { c.CPU = "" }),
		fault("OS", api.ErrNames, "OS", 0, func(c *api.Config) { c.OS.Name = "" }),
		fault("mode", api.ErrNames, "APPMODE", 1, func(c *api.Config) { c.Modes[1] = "" }),
		fault("modes", api.ErrOver, "APPMODE", 0, func(c *api.Config) { crowd(c, "APPMODE", 9) }),
		fault("resource", api.ErrNames, "RESOURCE", 3, func(c *api.Config) { c.Resources[3].Name = "" }),
		fault("resource", api.ErrValue, "RESOURCE", 2, func(c *api.Config) { c.Resources[2].Kind = 4 }),
		fault("resource", api.ErrValue, "RESOURCE", 1, func(c *api.Config) { c.Resources[1].Link = 1 }),
		fault("resource", api.ErrRef, "RESOURCE", 4, func(c *api.Config) { c.Resources[4] = api.Resource{Name: "x", Kind: api.ResLinked, Link: 5} }),
		fault("resource", api.ErrRule, "RESOURCE", 0, func(c *api.Config) { c.Resources[0].Link = 0 }),
		fault("event", api.ErrNames, "EVENT", 2, func(c *api.Config) { c.Events[2].Name = "m" }),
		fault("event", api.ErrValue, "EVENT", 1, func(c *api.Config) { c.Events[1].Mask = 0 }),
		fault("task", api.ErrNames, "TASK", 2, func(c *api.Config) { c.Tasks[2].Name = "t1" }),
		fault("task", api.ErrValue, "TASK", 0, func(c *api.Config) { c.Tasks[0].Priority = -1 }),
		fault("task", api.ErrRef, "TASK", 1, func(c *api.Config) { c.Tasks[1].Auto = []int{3} }),
		fault("task", api.ErrRule, "TASK", 2, func(c *api.Config) { c.Tasks[2].Activation = 2 }),
		fault("counter", api.ErrNames, "COUNTER", 1, func(c *api.Config) { c.Counters[1].Name = "m" }),
		fault("counter", api.ErrValue, "COUNTER", 0, func(c *api.Config) { c.Counters[0].Base = 0 }),
		fault("counters", api.ErrOver, "COUNTER", 0, func(c *api.Config) { crowd(c, "COUNTER", 17) }),
		fault("alarm", api.ErrNames, "ALARM", 0, func(c *api.Config) { c.Alarms[0].Name = "1" }),
		fault("alarm", api.ErrRef, "ALARM", 3, func(c *api.Config) { c.Alarms[3].Counter = -1 }),
		fault("alarm", api.ErrRule, "ALARM", 1, func(c *api.Config) { c.Alarms[1].Action.Event = 1 }),
		fault("alarm", api.ErrValue, "ALARM", 2, func(c *api.Config) { c.Alarms[2].Time = 0 }),
		fault("isr", api.ErrNames, "ISR", 2, func(c *api.Config) { c.Isrs[2].Name = "i1" }),
		fault("isr", api.ErrValue, "ISR", 3, func(c *api.Config) { c.Isrs[3].Category = 0 }),
		fault("isr", api.ErrRef, "ISR", 0, func(c *api.Config) { c.Isrs[0].Messages = []int{7} }),
		fault("isr", api.ErrRule, "ISR", 1, func(c *api.Config) { c.Isrs[1].Resources = []int{0} }),
		fault("message", api.ErrNames, "MESSAGE", 6, func(c *api.Config) { c.Messages[6].Name = "s4" }),
		fault("message", api.ErrValue, "MESSAGE", 5, func(c *api.Config) { c.Messages[5].Queue = 0 }),
		fault("message", api.ErrRef, "MESSAGE", 2, func(c *api.Config) { c.Messages[2].From = 0 }),
		fault("message", api.ErrValue, "MESSAGE", 3, func(c *api.Config) { c.Messages[3].Init = 256 }),
		fault("message", api.ErrNames, "MESSAGE", 0, func(c *api.Config) { c.Messages[0].Action.Name = "" }),
	}
	return l
}

// P7.1: two faults at once, in any two kinds or any two objects: the kinds' order counts, then the ids.
func TestTwoFaults(t *testing.T) {
	place := func(x turn) int {
		n := slices.Index(words(), x.want.Kind)*100 + x.want.ID
		if x.want.Code == api.ErrOver {
			n = slices.Index(words(), x.want.Kind)*100 - 1
		}
		return n
	}
	l := singles()
	for _, a := range l {
		told(t, a.what, turned(a.make), a.want)
		for _, b := range l {
			if place(a) < place(b) && (a.want.Code != api.ErrOver || a.want.Kind != b.want.Kind) {
				told(t, a.what+" "+b.what, turned(a.make, b.make), a.want)
				told(t, b.what+" "+a.what, turned(b.make, a.make), a.want)
			}
		}
	}
}

// step is one of the things that are asked of an object, from the left, and a turn that spoils it and nothing ahead of it.
type step struct {
	code  api.Errno
	spoil func(c *api.Config)
}

// P7.1: two faults of one object: the name first, and then what the row says, from the left.
func TestTwoFaultsOfOneObject(t *testing.T) {
	for _, x := range []struct {
		kind  string
		id    int
		steps []step
	}{
		{"RESOURCE", 4, []step{
			{api.ErrNames, func(c *api.Config) { c.Resources[4].Name = "" }},
			{api.ErrValue, func(c *api.Config) { c.Resources[4].Kind = 9 }},
			{api.ErrRef, func(c *api.Config) { c.Resources[4].Kind, c.Resources[4].Link = api.ResLinked, 9 }},
			{api.ErrRule, func(c *api.Config) { c.Resources[4].Kind, c.Resources[4].Link = api.ResLinked, 4 }},
		}},
		{"EVENT", 3, []step{
			{api.ErrNames, func(c *api.Config) { c.Events[3].Name = "m" }},
			{api.ErrValue, func(c *api.Config) { c.Events[3].Mask = 0 }},
		}},
		{"TASK", 2, []step{
			{api.ErrNames, func(c *api.Config) { c.Tasks[2].Name = "m" }},
			{api.ErrValue, func(c *api.Config) { c.Tasks[2].Priority = 64 }},
			{api.ErrRef, func(c *api.Config) { c.Tasks[2].Messages = []int{1, 0} }},
			{api.ErrOver, func(c *api.Config) { manyEvents(c, 2) }},
			{api.ErrRule, func(c *api.Config) { c.Tasks[2].Activation = 2 }},
			{api.ErrRule, func(c *api.Config) { c.Tasks[2].Resources = []int{2, 4} }},
		}},
		{"COUNTER", 1, []step{
			{api.ErrNames, func(c *api.Config) { c.Counters[1].Name = "m" }},
			{api.ErrValue, func(c *api.Config) { c.Counters[1].Base = 0 }},
		}},
		{"ALARM", 1, []step{
			{api.ErrNames, func(c *api.Config) { c.Alarms[1].Name = "m" }},
			{api.ErrRef, func(c *api.Config) { c.Alarms[1].Counter = 2 }},
			{api.ErrValue, func(c *api.Config) { c.Alarms[1].Action.Name = "x" }},
			{api.ErrRef, func(c *api.Config) { c.Alarms[1].Action.Task = 4 }},
			{api.ErrRule, func(c *api.Config) { c.Alarms[1].Action.Event = 3 }},
			{api.ErrRef, func(c *api.Config) { c.Alarms[1].Auto = []int{0, 0} }},
			{api.ErrValue, func(c *api.Config) { c.Alarms[1].Cycle = 1 }},
		}},
		{"ALARM", 2, []step{
			{api.ErrNames, func(c *api.Config) { c.Alarms[2].Name = "m" }},
			{api.ErrRef, func(c *api.Config) { c.Alarms[2].Counter = 2 }},
			{api.ErrValue, func(c *api.Config) { c.Alarms[2].Action.Task = 1 }},
			{api.ErrNames, func(c *api.Config) { c.Alarms[2].Action.Name = "" }},
			{api.ErrRef, func(c *api.Config) { c.Alarms[2].Auto = []int{3} }},
			{api.ErrValue, func(c *api.Config) { c.Alarms[2].Time = 0 }},
		}},
		{"ISR", 2, []step{
			{api.ErrNames, func(c *api.Config) { c.Isrs[2].Name = "m" }},
			{api.ErrValue, func(c *api.Config) { c.Isrs[2].Category = 3 }},
			{api.ErrRef, func(c *api.Config) { c.Isrs[2].Messages = []int{7} }},
			{api.ErrRule, func(c *api.Config) { c.Isrs[2].Resources = []int{2} }},
		}},
		{"MESSAGE", 2, []step{
			{api.ErrNames, func(c *api.Config) { c.Messages[2].Name = "m" }},
			{api.ErrValue, func(c *api.Config) { c.Messages[2].Queue = 17 }},
			{api.ErrRef, func(c *api.Config) { c.Messages[2].From = 2 }},
			{api.ErrValue, func(c *api.Config) { c.Messages[2].Action.Name = "x" }},
			{api.ErrRef, func(c *api.Config) { c.Messages[2].Action.Event = 4 }},
			{api.ErrRule, func(c *api.Config) { c.Messages[2].Action.Task = 0 }},
		}},
		{"MESSAGE", 0, []step{
			{api.ErrValue, func(c *api.Config) { c.Messages[0].Length = 1 }},
			{api.ErrRef, func(c *api.Config) { c.Messages[0].From = 7 }},
			{api.ErrValue, func(c *api.Config) { c.Messages[0].Init = 1 << 32 }},
			{api.ErrNames, func(c *api.Config) { c.Messages[0].Action.Name = "" }},
		}},
	} {
		for i, first := range x.steps {
			want := api.Verdict{Code: first.code, Kind: x.kind, ID: x.id}
			told(t, x.kind, turned(first.spoil), want)
			for _, other := range x.steps[i+1:] {
				told(t, x.kind, turned(other.spoil, first.spoil), want)
			}
		}
	}
}

// manyEvents gives a task 33 events.
func manyEvents(c *api.Config, task int) {
	c.Tasks[task].Events = nil
	for id := range 40 {
		if id >= len(c.Events) {
			c.Events = append(c.Events, api.Event{Name: "many" + strconv.Itoa(id), Mask: 8})
		}
		if id < 33 {
			c.Tasks[task].Events = append(c.Tasks[task].Events, id)
		}
	}
}
