package orti_test

import (
	"fmt"
	"reflect"
	"strings"
	"testing"

	"tappet/api"
	"tappet/orti"
)

// chance is a row of numbers that is the same in every run.
type chance uint64

func (c *chance) below(n int) int {
	*c = *c*6364136223846793005 + 1442695040888963407
	return int((uint64(*c) >> 33) % uint64(n))
}

func pick[T any](c *chance, l ...T) T { return l[c.below(len(l))] }

func shuffle[T any](c *chance, l []T) {
	for i := range l {
		j := i + c.below(len(l)-i)
		l[i], l[j] = l[j], l[i]
	}
}

// plain is a copy in new memory, in which each empty list is nil.
func plain[T any](x T) T {
	v := reflect.New(reflect.TypeOf(x)).Elem()
	v.Set(copied(reflect.ValueOf(x)))
	return v.Interface().(T)
}

func copied(v reflect.Value) reflect.Value {
	out := reflect.New(v.Type()).Elem()
	switch v.Kind() {
	case reflect.Slice:
		if v.Len() > 0 {
			out = reflect.MakeSlice(v.Type(), v.Len(), v.Len())
		}
		for i := range v.Len() {
			out.Index(i).Set(copied(v.Index(i)))
		}
	case reflect.Struct:
		for i := range v.NumField() {
			out.Field(i).Set(copied(v.Field(i)))
		}
	default:
		out.Set(v)
	}
	return out
}

// alike: nil and empty lists are one.
func alike[T any](a, b T) bool { return reflect.DeepEqual(plain(a), plain(b)) }

// short is what a failing test says of something that may be long.
func short(x any) string {
	s := fmt.Sprintf("%+v", x)
	return fmt.Sprintf("%q", s[:min(len(s), 900)])
}

// small is the configuration of the chapter's first example.
func small() api.Config {
	return api.Config{CPU: "c", OS: api.Os{Name: "o"}, Modes: []string{"m"}, Tasks: []api.Task{{Name: "t", Priority: 1, Activation: 1}}}
}

// whole is an ordinary configuration with every kind of object that a debugger is told of.
func whole() api.Config {
	return api.Config{
		CPU: "c", OS: api.Os{Name: "os_1", Schedule: true}, Modes: []string{"m"},
		Resources: []api.Resource{
			{Name: "m", Kind: api.ResLinked, Link: 3}, {Name: "n", Kind: api.ResStandard}, {Name: "r2", Kind: api.ResInternal},
			{Name: "r3", Kind: api.ResLinked, Link: 1}, {Name: "r4", Kind: api.ResInternal}, {Name: "r5", Kind: api.ResStandard},
			{Name: "r6", Kind: api.ResLinked, Link: 5}, {Name: "r7", Kind: api.ResStandard},
		},
		Events: []api.Event{{Name: "e0", Mask: 1}, {Name: "e1", Mask: 6}},
		Tasks: []api.Task{
			{Name: "m", Priority: 0, Activation: 255, Full: true, Resources: []int{0, 2, 7}},
			{Name: "t1", Priority: 62, Activation: 1, Resources: []int{4}, Events: []int{0, 1}},
			{Name: "t2", Priority: 7, Activation: 1, Events: []int{1}, Resources: []int{2}},
		},
		Counters: []api.Counter{{Name: "k0", Max: 9, Base: 1, Min: 1}, {Name: "m", Max: 9, Base: 1, Min: 1}},
		Alarms: []api.Alarm{
			{Name: "m", Counter: 1, Action: api.Action{Kind: api.ActTask, Task: 2}},
			{Name: "a1", Counter: 0, Action: api.Action{Kind: api.ActEvent, Task: 1, Event: 0}},
			{Name: "a2", Counter: 1, Action: api.Action{Kind: api.ActEvent, Task: 2, Event: 1}},
			{Name: "a3", Counter: 0, Action: api.Action{Kind: api.ActCallback, Name: "f"}},
		},
		Isrs: []api.Isr{
			{Name: "m", Category: 2, Priority: 64, Resources: []int{1}},
			{Name: "i1", Category: 1, Priority: 127},
			{Name: "i2", Category: 2, Priority: 80, Resources: []int{3}},
		},
	}
}

// wholeFacts are the facts of whole, written by hand.
func wholeFacts() api.Orti {
	return api.Orti{
		OS:    "os_1",
		Tasks: []api.OrtiTask{{Name: "m"}, {Name: "t1", Extended: true}, {Name: "t2", Extended: true}},
		Resources: []api.OrtiResource{
			{Name: "m", Ceiling: 80}, {Name: "n", Ceiling: 80}, {Name: "r2", Ceiling: 7}, {Name: "r3", Ceiling: 80}, {Name: "r4", Ceiling: 62},
			{Name: "r5", Ceiling: -1}, {Name: "r6", Ceiling: -1}, {Name: "r7", Ceiling: 0}, {Name: "RES_SCHEDULER", Ceiling: 62},
		},
		Alarms: []api.OrtiAlarm{
			{Name: "m", Counter: "m", Action: "ACTIVATETASK t2"}, {Name: "a1", Counter: "k0", Action: "SETEVENT t1 e0"},
			{Name: "a2", Counter: "m", Action: "SETEVENT t2 e1"}, {Name: "a3", Counter: "k0", Action: "ALARMCALLBACK f"},
		},
		Isrs: []api.OrtiIsr{{Name: "m", Category: 2, Priority: 64}, {Name: "i1", Category: 1, Priority: 127}, {Name: "i2", Category: 2, Priority: 80}},
	}
}

// said is a text of these lines.
func said(l ...string) string { return strings.Join(l, "\n") + "\n" }

// head are the lines of a text ahead of its first task, as the chapter has them.
func head(os, listed string) string {
	return said(
		`VERSION {`,
		`  KOIL = "2.2";`,
		`  OSSEMANTICS = "ORTI", "2.2";`,
		`};`,
		`IMPLEMENTATION tappet {`,
		`  OS {`,
		`    ENUM UINT32 [ `+listed+` ] RUNNINGTASK;`,
		`  };`,
		`  TASK {`,
		`    UINT8 PRIORITY;`,
		`    ENUM UINT8 [ "RUNNING" = 0, "WAITING" = 1, "READY" = 2, "SUSPENDED" = 3 ] STATE;`,
		`    UINT8 ACTIVATIONS;`,
		`    STRING KIND;`,
		`  };`,
		`  RESOURCE {`,
		`    UINT8 CEILING;`,
		`    STRING LOCKER;`,
		`  };`,
		`  ALARM {`,
		`    STRING COUNTER;`,
		`    STRING ACTION;`,
		`    UINT32 ALARMTIME;`,
		`    UINT32 CYCLETIME;`,
		`  };`,
		`  ISR {`,
		`    UINT8 CATEGORY;`,
		`    UINT8 PRIORITY;`,
		`    UINT8 REQUESTED;`,
		`  };`,
		`};`,
		`OS `+os+` {`,
		`  RUNNINGTASK = "$running";`,
		`};`,
	)
}

// facts holds what Facts gives against what it must give; it can be written.
func facts(t *testing.T, what string, c api.Config, want api.Orti) {
	t.Helper()
	o, e := orti.Facts(c)
	if e != api.OK || !alike(o, want) {
		t.Errorf("%q: Facts: %d %s, not %s: %s", what, e, short(o), short(want), short(c))
	}
	if _, e := orti.Write(o); e != api.OK {
		t.Errorf("%q: Write of Facts: %d: %s", what, e, short(o))
	}
}

// tellsNothing: Facts answers the error, and nothing beside it.
func tellsNothing(t *testing.T, what string, c api.Config) {
	t.Helper()
	if o, e := orti.Facts(c); e != api.ErrArg || !alike(o, api.Orti{}) {
		t.Errorf("%q: Facts: %d %s: %s", what, e, short(o), short(c))
	}
}

// writes holds what Write gives against a text, and reads that text again.
func writes(t *testing.T, what string, o api.Orti, want string) {
	t.Helper()
	s, e := orti.Write(o)
	if e != api.OK || s != want {
		at := 0
		for at < min(len(s), len(want)) && s[at] == want[at] {
			at++
		}
		t.Errorf("%q: Write: %d, another text from %d on: %q, not %q: %s", what, e, at, s[at:min(at+60, len(s))], want[at:min(at+60, len(want))], short(o))
	}
	reads(t, what, want, o)
}

// writesNothing: Write answers the error, and nothing beside it.
func writesNothing(t *testing.T, what string, o api.Orti) {
	t.Helper()
	if s, e := orti.Write(o); e != api.ErrOrti || s != "" {
		t.Errorf("%q: Write: %d %q: %s", what, e, s, short(o))
	}
}

func reads(t *testing.T, what, text string, want api.Orti) {
	t.Helper()
	if o, e := orti.Read(text); e != api.OK || !alike(o, want) {
		t.Errorf("%q: Read: %d %s, not %s: %q", what, e, short(o), short(want), text)
	}
}

// readsNothing: Read answers the error, and nothing beside it.
func readsNothing(t *testing.T, what, text string) {
	t.Helper()
	if o, e := orti.Read(text); e != api.ErrOrti || !alike(o, api.Orti{}) {
		t.Errorf("%q: Read: %d %s: %q", what, e, short(o), text)
	}
}

// value holds what Eval gives against what it must give.
func value(t *testing.T, o api.Orti, expr string, l api.Look, want string) {
	t.Helper()
	if s, e := orti.Eval(o, expr, l); e != api.OK || s != want {
		t.Errorf("Eval of %q: %d %q, not %q: %s, %s", expr, e, s, want, short(o), short(l))
	}
}

// noValue: Eval answers the error, and nothing beside it.
func noValue(t *testing.T, o api.Orti, expr string, l api.Look) {
	t.Helper()
	if s, e := orti.Eval(o, expr, l); e != api.ErrExpr || s != "" {
		t.Errorf("Eval of %q: %d %q: %s, %s", expr, e, s, short(o), short(l))
	}
}
