package orti_test

import (
	"math"
	"reflect"
	"strings"
	"testing"

	"tappet/api"
)

// textByHand is the text of wholeFacts.
func textByHand() string {
	return head("os_1", `"NO_TASK" = 4294967295, "m" = 0, "t1" = 1, "t2" = 2`) + said(
		`TASK m {`, `  PRIORITY = "$priority[0]";`, `  STATE = "$state[0]";`, `  ACTIVATIONS = "$active[0]";`, `  KIND = "BASIC";`, `};`,
		`TASK t1 {`, `  PRIORITY = "$priority[1]";`, `  STATE = "$state[1]";`, `  ACTIVATIONS = "$active[1]";`, `  KIND = "EXTENDED";`, `};`,
		`TASK t2 {`, `  PRIORITY = "$priority[2]";`, `  STATE = "$state[2]";`, `  ACTIVATIONS = "$active[2]";`, `  KIND = "EXTENDED";`, `};`,
		`RESOURCE m {`, `  CEILING = "80";`, `  LOCKER = "$locker[0]";`, `};`,
		`RESOURCE n {`, `  CEILING = "80";`, `  LOCKER = "$locker[1]";`, `};`,
		`RESOURCE r2 {`, `  CEILING = "7";`, `  LOCKER = "$locker[2]";`, `};`,
		`RESOURCE r3 {`, `  CEILING = "80";`, `  LOCKER = "$locker[3]";`, `};`,
		`RESOURCE r4 {`, `  CEILING = "62";`, `  LOCKER = "$locker[4]";`, `};`,
		`RESOURCE r5 {`, `  CEILING = "-1";`, `  LOCKER = "$locker[5]";`, `};`,
		`RESOURCE r6 {`, `  CEILING = "-1";`, `  LOCKER = "$locker[6]";`, `};`,
		`RESOURCE r7 {`, `  CEILING = "0";`, `  LOCKER = "$locker[7]";`, `};`,
		`RESOURCE RES_SCHEDULER {`, `  CEILING = "62";`, `  LOCKER = "$locker[8]";`, `};`,
		`ALARM m {`, `  COUNTER = "m";`, `  ACTION = "ACTIVATETASK t2";`, `  ALARMTIME = "$left[0]";`, `  CYCLETIME = "$cycle[0]";`, `};`,
		`ALARM a1 {`, `  COUNTER = "k0";`, `  ACTION = "SETEVENT t1 e0";`, `  ALARMTIME = "$left[1]";`, `  CYCLETIME = "$cycle[1]";`, `};`,
		`ALARM a2 {`, `  COUNTER = "m";`, `  ACTION = "SETEVENT t2 e1";`, `  ALARMTIME = "$left[2]";`, `  CYCLETIME = "$cycle[2]";`, `};`,
		`ALARM a3 {`, `  COUNTER = "k0";`, `  ACTION = "ALARMCALLBACK f";`, `  ALARMTIME = "$left[3]";`, `  CYCLETIME = "$cycle[3]";`, `};`,
		`ISR m {`, `  CATEGORY = "2";`, `  PRIORITY = "64";`, `  REQUESTED = "$requested[0]";`, `};`,
		`ISR i1 {`, `  CATEGORY = "1";`, `  PRIORITY = "127";`, `  REQUESTED = "$requested[1]";`, `};`,
		`ISR i2 {`, `  CATEGORY = "2";`, `  PRIORITY = "80";`, `  REQUESTED = "$requested[2]";`, `};`,
	)
}

// P11.2: the text, byte by byte, of several things of each kind.
func TestTextOfAll(t *testing.T) { writes(t, "whole", wholeFacts(), textByHand()) }

// P11.2: the text of nothing, and of one thing of one kind alone.
func TestTextOfNothingAndOfOne(t *testing.T) {
	none := `"NO_TASK" = 4294967295`
	writes(t, "nothing", api.Orti{OS: "o"}, head("o", none))
	writes(t, "one task", api.Orti{OS: "o", Tasks: []api.OrtiTask{{Name: "t"}}}, head("o", none+`, "t" = 0`)+said(
		`TASK t {`, `  PRIORITY = "$priority[0]";`, `  STATE = "$state[0]";`, `  ACTIVATIONS = "$active[0]";`, `  KIND = "BASIC";`, `};`))
	writes(t, "one resource", api.Orti{OS: "o", Resources: []api.OrtiResource{{Name: "r", Ceiling: 127}}}, head("o", none)+said(
		`RESOURCE r {`, `  CEILING = "127";`, `  LOCKER = "$locker[0]";`, `};`))
	writes(t, "one alarm", api.Orti{OS: "o", Alarms: []api.OrtiAlarm{{Name: "a", Counter: "c", Action: "SETEVENT t e"}}}, head("o", none)+said(
		`ALARM a {`, `  COUNTER = "c";`, `  ACTION = "SETEVENT t e";`, `  ALARMTIME = "$left[0]";`, `  CYCLETIME = "$cycle[0]";`, `};`))
	writes(t, "one ISR", api.Orti{OS: "o", Isrs: []api.OrtiIsr{{Name: "i", Category: 2, Priority: 127}}}, head("o", none)+said(
		`ISR i {`, `  CATEGORY = "2";`, `  PRIORITY = "127";`, `  REQUESTED = "$requested[0]";`, `};`))
}

// P11.2: names may stand twice, and may be words of the text.
func TestNamesTwice(t *testing.T) {
	o := api.Orti{
		OS:        "OS",
		Tasks:     []api.OrtiTask{{Name: "TASK", Extended: true}, {Name: "TASK"}, {Name: "NO_TASK"}},
		Resources: []api.OrtiResource{{Name: "RESOURCE", Ceiling: -1}, {Name: "RESOURCE", Ceiling: 10}},
		Alarms:    []api.OrtiAlarm{{Name: "OS", Counter: "OS", Action: "ACTIVATETASK ACTIVATETASK"}, {Name: "OS", Counter: "OS", Action: "SETEVENT SETEVENT SETEVENT"}},
		Isrs:      []api.OrtiIsr{{Name: "ISR", Category: 1, Priority: 64}, {Name: "ISR", Category: 1, Priority: 64}},
	}
	writes(t, "twice", o, head("OS", `"NO_TASK" = 4294967295, "TASK" = 0, "TASK" = 1, "NO_TASK" = 2`)+said(
		`TASK TASK {`, `  PRIORITY = "$priority[0]";`, `  STATE = "$state[0]";`, `  ACTIVATIONS = "$active[0]";`, `  KIND = "EXTENDED";`, `};`,
		`TASK TASK {`, `  PRIORITY = "$priority[1]";`, `  STATE = "$state[1]";`, `  ACTIVATIONS = "$active[1]";`, `  KIND = "BASIC";`, `};`,
		`TASK NO_TASK {`, `  PRIORITY = "$priority[2]";`, `  STATE = "$state[2]";`, `  ACTIVATIONS = "$active[2]";`, `  KIND = "BASIC";`, `};`,
		`RESOURCE RESOURCE {`, `  CEILING = "-1";`, `  LOCKER = "$locker[0]";`, `};`,
		`RESOURCE RESOURCE {`, `  CEILING = "10";`, `  LOCKER = "$locker[1]";`, `};`,
		`ALARM OS {`, `  COUNTER = "OS";`, `  ACTION = "ACTIVATETASK ACTIVATETASK";`, `  ALARMTIME = "$left[0]";`, `  CYCLETIME = "$cycle[0]";`, `};`,
		`ALARM OS {`, `  COUNTER = "OS";`, `  ACTION = "SETEVENT SETEVENT SETEVENT";`, `  ALARMTIME = "$left[1]";`, `  CYCLETIME = "$cycle[1]";`, `};`,
		`ISR ISR {`, `  CATEGORY = "1";`, `  PRIORITY = "64";`, `  REQUESTED = "$requested[0]";`, `};`,
		`ISR ISR {`, `  CATEGORY = "1";`, `  PRIORITY = "64";`, `  REQUESTED = "$requested[1]";`, `};`,
	))
}

// P11.2: numbers of things are no shorter and no longer than they are.
func TestManyThings(t *testing.T) {
	o := api.Orti{OS: "o"}
	for i := range 1234 {
		o.Tasks = append(o.Tasks, api.OrtiTask{Name: "t", Extended: i%3 == 0})
		o.Resources = append(o.Resources, api.OrtiResource{Name: "r", Ceiling: i%129 - 1})
		o.Alarms = append(o.Alarms, api.OrtiAlarm{Name: "a", Counter: "c", Action: "ALARMCALLBACK f"})
		o.Isrs = append(o.Isrs, api.OrtiIsr{Name: "i", Category: 1 + i%2, Priority: 64 + i%64})
	}
	want, _ := textOf(o)
	writes(t, "many", o, want)
}

// badNames are no names; goodNames are.
func badNames() []string {
	return []string{"", "1", "0a", " ", "a b", " a", "a ", "a-b", "a.b", "a\"", "\"a\"", "a\\", "a\n", "a;", "é", "aé", "a\x00", "\xff", "a@", "a[", "a`", "a{", "a/", "a:", strings.Repeat("a", 64), strings.Repeat("a", 999)}
}

func goodNames() []string {
	return []string{"a", "_", "__", "_0", "Z", "z9", "A", "azAZ_09", strings.Repeat("a", 63), "_" + strings.Repeat("9", 62)}
}

// P11.2: OS, all names, counters and the words behind an action's first must be names.
func TestNames(t *testing.T) {
	spots := map[string]func(o *api.Orti, s string){
		"OS":       func(o *api.Orti, s string) { o.OS = s },
		"task":     func(o *api.Orti, s string) { o.Tasks[2].Name = s },
		"resource": func(o *api.Orti, s string) { o.Resources[8].Name = s },
		"alarm":    func(o *api.Orti, s string) { o.Alarms[3].Name = s },
		"counter":  func(o *api.Orti, s string) { o.Alarms[0].Counter = s },
		"ISR":      func(o *api.Orti, s string) { o.Isrs[0].Name = s },
		"activate": func(o *api.Orti, s string) { o.Alarms[1].Action = "ACTIVATETASK " + s },
		"set of":   func(o *api.Orti, s string) { o.Alarms[0].Action = "SETEVENT " + s + " e" },
		"set":      func(o *api.Orti, s string) { o.Alarms[3].Action = "SETEVENT t " + s },
		"callback": func(o *api.Orti, s string) { o.Alarms[2].Action = "ALARMCALLBACK " + s },
	}
	for what, set := range spots {
		for _, s := range badNames() {
			o := wholeFacts()
			set(&o, s)
			writesNothing(t, what, o)
		}
		for _, s := range goodNames() {
			o := wholeFacts()
			set(&o, s)
			want, _ := textOf(o)
			writes(t, what, o, want)
		}
	}
}

// P11.2: an action has one of three forms.
func TestActions(t *testing.T) {
	for _, s := range []string{
		"", " ", "x", "t e", "ACTIVATETASK", "ACTIVATETASK ", "ACTIVATETASK  t", " ACTIVATETASK t", "ACTIVATETASK t ", "ACTIVATETASK t e", "ACTIVATETASK\tt", "ACTIVATETASKt", "ACTIVATETAS t", "ACTIVATETASKS t", "activatetask t", "ACTIVATETASK t\n",
		"SETEVENT", "SETEVENT ", "SETEVENT t", "SETEVENT t ", "SETEVENT  t", "SETEVENT t  e", "SETEVENT  t e", " SETEVENT t e", "SETEVENT t e ", "SETEVENT t e f", "SETEVENTS t e", "setevent t e", "SETEVENT t, e",
		"ALARMCALLBACK", "ALARMCALLBACK ", "ALARMCALLBACK  f", " ALARMCALLBACK f", "ALARMCALLBACK f ", "ALARMCALLBACK f g", "ALARMCALLBACK \"f\"", "CALLBACK f", "ALARMCALLBACk f",
		"FLAG f", "NONE", "ACTIVATETASK t SETEVENT t e",
	} {
		o := wholeFacts()
		o.Alarms[3].Action = s
		writesNothing(t, s, o)
	}
	for _, s := range []string{"ACTIVATETASK t", "SETEVENT t e", "SETEVENT t t", "ALARMCALLBACK f", "ALARMCALLBACK _"} {
		o := wholeFacts()
		o.Alarms[0].Action = s
		want, _ := textOf(o)
		writes(t, s, o, want)
	}
}

// P11.2: ceilings, categories and priorities, at their ends and beyond.
func TestNumbers(t *testing.T) {
	beyond := []int{math.MinInt, -1 << 32, 1 << 32, math.MaxInt}
	for what, x := range map[string]struct {
		set         func(o *api.Orti, n int)
		least, most int
	}{
		"ceiling":      {func(o *api.Orti, n int) { o.Resources[8].Ceiling = n }, -1, 127},
		"other":        {func(o *api.Orti, n int) { o.Resources[0].Ceiling = n }, -1, 127},
		"category":     {func(o *api.Orti, n int) { o.Isrs[0].Category = n }, 1, 2},
		"ISR's, last":  {func(o *api.Orti, n int) { o.Isrs[2].Priority = n }, 64, 127},
		"ISR's, first": {func(o *api.Orti, n int) { o.Isrs[0].Priority = n }, 64, 127},
	} {
		for _, n := range append(beyond, x.least-1, x.most+1, x.least-300, x.most+256) {
			o := wholeFacts()
			x.set(&o, n)
			writesNothing(t, what, o)
		}
		for n := x.least; n <= x.most; n++ {
			o := wholeFacts()
			x.set(&o, n)
			want, _ := textOf(o)
			writes(t, what, o, want)
		}
	}
}

// P11.2, P11.3: each place of facts, turned alone, leads to another text, or to none.
func TestEachPlaceIsWritten(t *testing.T) {
	n := len(places(reflect.ValueOf(wholeFacts())))
	for i := range n {
		o := wholeFacts()
		v := places(reflect.ValueOf(&o).Elem())[i]
		switch v.Kind() {
		case reflect.Bool:
			v.SetBool(!v.Bool())
		case reflect.String:
			v.SetString(v.String() + "x")
		case reflect.Int:
			v.SetInt(v.Int() ^ 3)
		case reflect.Slice:
			v.Set(v.Slice(0, v.Len()-1))
		}
		want, e := textOf(o)
		if e != api.OK {
			writesNothing(t, "turned", o)
			continue
		}
		if want == textByHand() {
			t.Errorf("place %d is not told", i)
		}
		writes(t, "turned", o, want)
	}
}
