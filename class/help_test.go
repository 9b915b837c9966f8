package class_test

import (
	"fmt"
	"reflect"
	"strings"
	"testing"

	"tappet/api"
	"tappet/class"
)

// chance is a row of numbers that is the same in every run.
type chance uint64

func (c *chance) below(n int) int {
	*c = *c*6364136223846793005 + 1442695040888963407
	return int((uint64(*c) >> 33) % uint64(n))
}

func pick[T any](c *chance, l ...T) T { return l[c.below(len(l))] }

func shuffle[T any](c *chance, l []T) {
	for i := range l {
		j := i + c.below(len(l)-i)
		l[i], l[j] = l[j], l[i]
	}
}

// plain is a copy in new memory, in which each empty list is nil.
func plain[T any](x T) T {
	v := reflect.New(reflect.TypeOf(x)).Elem()
	v.Set(copied(reflect.ValueOf(x)))
	return v.Interface().(T)
}

func copied(v reflect.Value) reflect.Value {
	out := reflect.New(v.Type()).Elem()
	switch v.Kind() {
	case reflect.Slice:
		if v.Len() > 0 {
			out = reflect.MakeSlice(v.Type(), v.Len(), v.Len())
		}
		for i := range v.Len() {
			out.Index(i).Set(copied(v.Index(i)))
		}
	case reflect.Struct:
		for i := range v.NumField() {
			out.Field(i).Set(copied(v.Field(i)))
		}
	default:
		out.Set(v)
	}
	return out
}

// short is what a failing test says of something that may be long.
func short(x any) string {
	s := fmt.Sprintf("%+v", x)
	return fmt.Sprintf("%q", s[:min(len(s), 700)])
}

// small is the least configuration that may be.
func small() api.Config {
	return api.Config{CPU: "c", OS: api.Os{Name: "o"}, Modes: []string{"m"}, Tasks: []api.Task{{Name: "t", Priority: 1, Activation: 1}}}
}

// whole is an ordinary configuration with every kind of object, in which names of different kinds are the same.
func whole() api.Config {
	return api.Config{
		CPU: "c", OS: api.Os{Name: "c", Startup: true, Error: true, Schedule: true}, Modes: []string{"m", "n", "c"},
		Resources: []api.Resource{
			{Name: "m", Kind: api.ResLinked, Link: 3}, {Name: "n", Kind: api.ResStandard}, {Name: "r2", Kind: api.ResInternal},
			{Name: "r3", Kind: api.ResLinked, Link: 1}, {Name: "r4", Kind: api.ResInternal},
		},
		Events: []api.Event{{Name: "m", Mask: 1, Auto: true}, {Name: "e1", Mask: 6}, {Name: "e2", Mask: 4, Auto: true}, {Name: "e3", Mask: 1 << 31}},
		Tasks: []api.Task{
			{Name: "m", Priority: 0, Activation: 255, Full: true, Auto: []int{0, 2}, Resources: []int{0, 1, 2, 3}, Messages: []int{0, 6}},
			{Name: "t1", Priority: 63, Activation: 1, Auto: []int{1}, Resources: []int{1, 4}, Events: []int{0, 1, 3}, Messages: []int{1, 2}},
			{Name: "t2", Priority: 7, Activation: 1, Events: []int{0, 2}},
			{Name: "t3", Priority: 7, Activation: 3},
		},
		Counters: []api.Counter{{Name: "m", Max: 1, Base: 1, Min: 1}, {Name: "k1", Max: api.MaxTick, Base: api.MaxTick, Min: 9}},
		Alarms: []api.Alarm{
			{Name: "m", Counter: 0, Action: api.Action{Kind: api.ActTask, Task: 3}, Auto: []int{0, 1, 2}, Time: 1, Cycle: 1},
			{Name: "a1", Counter: 1, Action: api.Action{Kind: api.ActEvent, Task: 2, Event: 2}},
			{Name: "a2", Counter: 1, Action: api.Action{Kind: api.ActCallback, Name: "a1"}, Auto: []int{2}, Time: 8},
			{Name: "a3", Counter: 1, Action: api.Action{Kind: api.ActTask}, Auto: []int{0}, Time: api.MaxTick, Cycle: 9},
		},
		Isrs: []api.Isr{
			{Name: "m", Category: 2, Priority: 64, Resources: []int{0, 3}, Messages: []int{0, 1}},
			{Name: "i1", Category: 1, Priority: 127},
			{Name: "i2", Category: 2, Priority: 80, Resources: []int{1}},
			{Name: "i3", Category: 1, Priority: 81},
		},
		Messages: []api.Message{
			{Name: "m", Kind: api.MsgUnqueued, From: 4, Init: api.MaxNumber, Action: api.Action{Kind: api.ActFlag, Name: "f"}},
			{Name: "s1", Kind: api.MsgSend, Length: 1},
			{Name: "q2", Kind: api.MsgQueued, From: 1, Queue: 16, Action: api.Action{Kind: api.ActEvent, Task: 1, Event: 3}},
			{Name: "u3", Kind: api.MsgUnqueued, From: 1, Init: 255, Action: api.Action{Kind: api.ActTask, Task: 3}},
			{Name: "s4", Kind: api.MsgSend, Length: 8},
			{Name: "q5", Kind: api.MsgQueued, From: 4, Queue: 1, Action: api.Action{Kind: api.ActCallback, Name: "f"}},
			{Name: "u6", Kind: api.MsgUnqueued, From: 1},
		},
	}
}

// turned is an ordinary configuration in which something was turned.
func turned(turns ...func(c *api.Config)) api.Config {
	c := whole()
	for _, turn := range turns {
		turn(&c)
	}
	return c
}

// told holds Check's verdict against the one that must be; Class takes just what may be.
func told(t *testing.T, what string, c api.Config, want api.Verdict) {
	t.Helper()
	if v := class.Check(c); v != want {
		t.Errorf("%q: Check: %v, not %v: %s", what, v, want, short(c))
	}
	k, e := class.Class(c)
	if want == (api.Verdict{}) && (k < api.BCC1 || k > api.ECC2 || e != api.OK) || want != (api.Verdict{}) && (k != 0 || e != api.ErrArg) {
		t.Errorf("%q: Class: %d %d: %s", what, k, e, short(c))
	}
}

func may(t *testing.T, what string, c api.Config) {
	t.Helper()
	told(t, what, c, api.Verdict{})
}

func longest() string { return strings.Repeat("z", api.MaxName) }

func goodNames() []string {
	return []string{"a", "_", "Z", "A0", "z9", "__", "_9", "TRUE", "TASK", "RES_SCHEDULER", longest()}
}

func badNames() []string {
	return []string{"", "1a", "9", " ", "a b", " a", "a ", "a\n", "a-b", "a.b", "@", "[", "`", "{", "a@", "a[", "a`", "a{", "a/", "a:", "/", ":", "\x00", "a\x00", "a\x80", "ä", "aé", `"a"`, longest() + "z", strings.Repeat("z", 1000)}
}

// words are the kinds in the order in which they are looked at.
func words() []string {
	return []string{"CPU", "OS", "APPMODE", "RESOURCE", "EVENT", "TASK", "COUNTER", "ALARM", "ISR", "MESSAGE"}
}
