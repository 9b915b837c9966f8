package orti_test

import (
	"testing"

	"tappet/api"
)

// P11.1: of an ordinary configuration all that a debugger is told.
func TestFactsOfAll(t *testing.T) {
	facts(t, "small", small(), api.Orti{OS: "o", Tasks: []api.OrtiTask{{Name: "t"}}})
	facts(t, "whole", whole(), wholeFacts())
}

// turned is the ordinary configuration in which something was turned.
func turned(turn func(c *api.Config)) api.Config {
	c := whole()
	turn(&c)
	return c
}

// P11.1: the name is the OS', not the CPU's; a task is extended by its events alone.
func TestFactsOfTheSystemAndItsTasks(t *testing.T) {
	want := wholeFacts()
	want.OS = "another"
	facts(t, "OS", turned(func(c *api.Config) { c.OS.Name = "another"; c.CPU = "cpu" }), want)
	want = wholeFacts()
	want.Tasks[0].Extended, want.Tasks[0].Name = true, "first"
	facts(t, "an event more", turned(func(c *api.Config) {
		c.Tasks[0].Name, c.Tasks[0].Activation, c.Tasks[0].Events = "first", 1, []int{1}
	}), want)
	want = wholeFacts()
	want.Tasks[2].Extended = false
	want.Alarms[2].Action = "ACTIVATETASK m"
	facts(t, "events fewer", turned(func(c *api.Config) {
		c.Tasks[2].Events, c.Alarms[2].Action = []int{}, api.Action{Kind: api.ActTask}
	}), want)
}

// P11.1: ceilings of resources of every kind.
func TestFactsOfCeilings(t *testing.T) {
	for _, x := range []struct {
		what    string
		turn    func(c *api.Config)
		changed map[int]int
	}{
		{"an ISR fewer", func(c *api.Config) { c.Isrs[2].Resources = nil }, map[int]int{0: 64, 1: 64, 3: 64}},
		{"no ISR", func(c *api.Config) { c.Isrs = nil }, map[int]int{0: 0, 1: 0, 3: 0}},
		{"nobody any more", func(c *api.Config) { c.Isrs = nil; c.Tasks[0].Resources = nil }, map[int]int{0: -1, 1: -1, 3: -1, 7: -1}},
		{"used by way of a linked one", func(c *api.Config) { c.Tasks[1].Resources = []int{4, 6} }, map[int]int{5: 62, 6: 62}},
		{"an internal one nobody's", func(c *api.Config) { c.Tasks[1].Resources = nil }, map[int]int{4: -1}},
		{"an internal one of two", func(c *api.Config) { c.Tasks[1].Resources = []int{2} }, map[int]int{2: 62, 4: -1}},
		{"a standard one alone", func(c *api.Config) { c.Tasks[2].Resources = []int{2, 7} }, map[int]int{7: 7}},
		{"a greater priority", func(c *api.Config) { c.Tasks[1].Priority = 63 }, map[int]int{4: 63, 8: 63}},
		{"the greatest of an ISR", func(c *api.Config) { c.Isrs[1].Category, c.Isrs[1].Resources = 2, []int{1, 5} }, map[int]int{0: 127, 1: 127, 3: 127, 5: 127, 6: 127}},
	} {
		c, want := turned(x.turn), wholeFacts()
		want.Isrs = nil
		for _, i := range c.Isrs {
			want.Isrs = append(want.Isrs, api.OrtiIsr{Name: i.Name, Category: i.Category, Priority: i.Priority})
		}
		for id, ceiling := range x.changed {
			want.Resources[id].Ceiling = ceiling
		}
		facts(t, x.what, c, want)
	}
}

// P11.1: RES_SCHEDULER is there with USERESSCHEDULER alone, behind all others, though another one may have its name.
func TestFactsOfTheScheduler(t *testing.T) {
	want := wholeFacts()
	want.Resources = want.Resources[:8]
	facts(t, "without", turned(func(c *api.Config) { c.OS.Schedule = false }), want)
	want = wholeFacts()
	want.Resources[7].Name = "RES_SCHEDULER"
	facts(t, "twice", turned(func(c *api.Config) { c.Resources[7].Name = "RES_SCHEDULER" }), want)

	c := small()
	c.OS.Schedule = true
	facts(t, "alone", c, api.Orti{OS: "o", Tasks: []api.OrtiTask{{Name: "t"}}, Resources: []api.OrtiResource{{Name: "RES_SCHEDULER", Ceiling: 1}}})
	c.Tasks[0].Priority = 0
	facts(t, "of the least priority", c, api.Orti{OS: "o", Tasks: []api.OrtiTask{{Name: "t"}}, Resources: []api.OrtiResource{{Name: "RES_SCHEDULER", Ceiling: 0}}})
	c.Isrs = []api.Isr{{Name: "i", Category: 2, Priority: 100}}
	want = api.Orti{OS: "o", Tasks: []api.OrtiTask{{Name: "t"}}, Resources: []api.OrtiResource{{Name: "RES_SCHEDULER", Ceiling: 0}}, Isrs: []api.OrtiIsr{{Name: "i", Category: 2, Priority: 100}}}
	facts(t, "an ISR does not count", c, want)
}

// P11.1: an alarm's counter and its action, by name.
func TestFactsOfAlarms(t *testing.T) {
	for _, x := range []struct {
		action api.Action
		want   string
	}{
		{api.Action{Kind: api.ActTask, Task: 0}, "ACTIVATETASK m"},
		{api.Action{Kind: api.ActTask, Task: 1}, "ACTIVATETASK t1"},
		{api.Action{Kind: api.ActEvent, Task: 1, Event: 1}, "SETEVENT t1 e1"},
		{api.Action{Kind: api.ActEvent, Task: 2, Event: 1}, "SETEVENT t2 e1"},
		{api.Action{Kind: api.ActCallback, Name: "call_9"}, "ALARMCALLBACK call_9"},
		{api.Action{Kind: api.ActCallback, Name: "t1"}, "ALARMCALLBACK t1"},
	} {
		for counter, name := range []string{"k0", "m"} {
			c, want := whole(), wholeFacts()
			c.Alarms[1].Action, want.Alarms[1].Action = x.action, x.want
			c.Alarms[1].Counter, want.Alarms[1].Counter = counter, name
			facts(t, x.want, c, want)
		}
	}
}

// P11.1: ErrArg, if something of the configuration is not as layer 7 asks.
func TestFactsOfNothing(t *testing.T) {
	tellsNothing(t, "zero", api.Config{})
	for what, turn := range map[string]func(c *api.Config){
		"CPU":             func(c *api.Config) { c.CPU = "" },
		"OS":              func(c *api.Config) { c.OS.Name = "1" },
		"mode":            func(c *api.Config) { c.Modes = nil },
		"mode's name":     func(c *api.Config) { c.Modes[0] = "a b" },
		"no task":         func(c *api.Config) { c.Tasks = nil },
		"task":            func(c *api.Config) { c.Tasks[1].Name = "m" },
		"priority":        func(c *api.Config) { c.Tasks[1].Priority = 64 },
		"activations":     func(c *api.Config) { c.Tasks[1].Activation = 2 },
		"task's resource": func(c *api.Config) { c.Tasks[1].Resources = []int{8} },
		"two internal":    func(c *api.Config) { c.Tasks[1].Resources = []int{2, 4} },
		"resource":        func(c *api.Config) { c.Resources[1].Kind = 0 },
		"link":            func(c *api.Config) { c.Resources[0].Link = 8 },
		"links go round":  func(c *api.Config) { c.Resources[1] = api.Resource{Name: "n", Kind: api.ResLinked, Link: 0} },
		"linked to it":    func(c *api.Config) { c.Resources[0].Link = 2 },
		"event":           func(c *api.Config) { c.Events[0].Mask = 0 },
		"counter":         func(c *api.Config) { c.Counters[0].Min = 10 },
		"alarm's counter": func(c *api.Config) { c.Alarms[0].Counter = 2 },
		"alarm's task":    func(c *api.Config) { c.Alarms[0].Action.Task = 3 },
		"alarm's event":   func(c *api.Config) { c.Alarms[2].Action.Event = 0 },
		"alarm's name":    func(c *api.Config) { c.Alarms[3].Action.Name = "" },
		"no action":       func(c *api.Config) { c.Alarms[0].Action = api.Action{} },
		"a flag":          func(c *api.Config) { c.Alarms[0].Action = api.Action{Kind: api.ActFlag, Name: "f"} },
		"category":        func(c *api.Config) { c.Isrs[0].Category = 3 },
		"ISR's priority":  func(c *api.Config) { c.Isrs[0].Priority = 63 },
		"ISR's resource":  func(c *api.Config) { c.Isrs[0].Resources = []int{2} },
		"a message":       func(c *api.Config) { c.Messages = []api.Message{{Name: "x"}} },
	} {
		tellsNothing(t, what, turned(turn))
	}
}
