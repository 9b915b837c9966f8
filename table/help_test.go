package table_test

import (
	"fmt"
	"reflect"
	"slices"
	"testing"

	"tappet/api"
	"tappet/table"
)

// chance is a row of numbers that is the same in every run.
type chance uint64

func (c *chance) below(n int) int {
	*c = *c*6364136223846793005 + 1442695040888963407
	return int((uint64(*c) >> 33) % uint64(n))
}

func pick[T any](c *chance, l ...T) T { return l[c.below(len(l))] }

func shuffle[T any](c *chance, l []T) {
	for i := range l {
		j := i + c.below(len(l)-i)
		l[i], l[j] = l[j], l[i]
	}
}

// plain is a copy in new memory, in which each empty list is nil.
func plain[T any](x T) T {
	v := reflect.New(reflect.TypeOf(x)).Elem()
	v.Set(copied(reflect.ValueOf(x)))
	return v.Interface().(T)
}

func copied(v reflect.Value) reflect.Value {
	out := reflect.New(v.Type()).Elem()
	switch v.Kind() {
	case reflect.Slice:
		if v.Len() > 0 {
			out = reflect.MakeSlice(v.Type(), v.Len(), v.Len())
		}
		for i := range v.Len() {
			out.Index(i).Set(copied(v.Index(i)))
		}
	case reflect.Struct:
		for i := range v.NumField() {
			out.Field(i).Set(copied(v.Field(i)))
		}
	default:
		out.Set(v)
	}
	return out
}

// same: nil and empty lists are one.
func same[T any](a, b T) bool { return reflect.DeepEqual(plain(a), plain(b)) }

// rooms are the stretches of memory in which lists lie, with all the room that they have.
func rooms(v reflect.Value) [][2]uintptr {
	var l [][2]uintptr
	switch v.Kind() {
	case reflect.Slice:
		if v.Cap() > 0 {
			size := v.Type().Elem().Size() * uintptr(v.Cap())
			l = append(l, [2]uintptr{v.Pointer(), v.Pointer() + size})
		}
		for i := range v.Len() {
			l = append(l, rooms(v.Index(i))...)
		}
	case reflect.Struct:
		for i := range v.NumField() {
			l = append(l, rooms(v.Field(i))...)
		}
	}
	return l
}

// apart: no two lists of all these values share memory.
func apart(t *testing.T, all ...any) {
	t.Helper()
	var l [][2]uintptr
	for _, x := range all {
		l = append(l, rooms(reflect.ValueOf(x))...)
	}
	slices.SortFunc(l, func(a, b [2]uintptr) int { return int(a[0]) - int(b[0]) })
	for i := 1; i < len(l); i++ {
		if l[i][0] < l[i-1][1] {
			t.Error("lists share memory")
			return
		}
	}
}

// short is what a failing test says of something that may be long.
func short(x any) string {
	s := fmt.Sprintf("%+v", x)
	return fmt.Sprintf("%q", s[:min(len(s), 700)])
}

// small is the configuration of the chapter's first example.
func small() api.Config {
	return api.Config{CPU: "c", OS: api.Os{Name: "o"}, Modes: []string{"m"}, Tasks: []api.Task{{Name: "t", Priority: 1, Full: true, Activation: 1}}}
}

// smallTables are the tables that the chapter tells of it.
func smallTables() api.Tables {
	return api.Tables{
		Modes: 1, Rings: []api.RingRow{{Priority: 1, Capacity: 1}},
		Tasks: []api.TaskRow{{Priority: 1, Ring: 0, Full: true, Limit: 1, Mask: 0, Internal: -1, Own: nil, Auto: 0}},
		Depth: 1, Frames: 4, Errors: 2, Callbacks: 0,
	}
}

// whole is an ordinary configuration with every kind of object and every kind of action.
func whole() api.Config {
	return api.Config{
		CPU: "c", OS: api.Os{Name: "c", Startup: true, Error: true, Schedule: true}, Modes: []string{"m", "n", "c"},
		Resources: []api.Resource{
			{Name: "m", Kind: api.ResLinked, Link: 3}, {Name: "n", Kind: api.ResStandard}, {Name: "r2", Kind: api.ResInternal},
			{Name: "r3", Kind: api.ResLinked, Link: 1}, {Name: "r4", Kind: api.ResInternal}, {Name: "r5", Kind: api.ResStandard},
		},
		Events: []api.Event{{Name: "m", Mask: 1, Auto: true}, {Name: "e1", Mask: 6}, {Name: "e2", Mask: 4, Auto: true}, {Name: "e3", Mask: 1 << 31}},
		Tasks: []api.Task{
			{Name: "m", Priority: 0, Activation: 255, Full: true, Auto: []int{0, 2}, Resources: []int{0, 1, 2, 3}, Messages: []int{0, 6}},
			{Name: "t1", Priority: 62, Activation: 1, Auto: []int{1}, Resources: []int{1, 4}, Events: []int{0, 1, 3}, Messages: []int{1, 2}},
			{Name: "t2", Priority: 7, Activation: 1, Events: []int{0, 2}},
			{Name: "t3", Priority: 7, Activation: 3, Full: true},
		},
		Counters: []api.Counter{{Name: "m", Max: 1, Base: 1, Min: 1}, {Name: "k1", Max: api.MaxTick, Base: api.MaxTick, Min: 9}},
		Alarms: []api.Alarm{
			{Name: "m", Counter: 0, Action: api.Action{Kind: api.ActTask, Task: 3}, Auto: []int{0, 1, 2}, Time: 1, Cycle: 1},
			{Name: "a1", Counter: 1, Action: api.Action{Kind: api.ActEvent, Task: 2, Event: 2}},
			{Name: "a2", Counter: 1, Action: api.Action{Kind: api.ActCallback, Name: "a1"}, Auto: []int{2}, Time: 8},
			{Name: "a3", Counter: 1, Action: api.Action{Kind: api.ActTask}, Auto: []int{0}, Time: api.MaxTick, Cycle: 9},
		},
		Isrs: []api.Isr{
			{Name: "m", Category: 2, Priority: 65, Resources: []int{0, 3}, Messages: []int{0, 1}},
			{Name: "i1", Category: 1, Priority: 126},
			{Name: "i2", Category: 2, Priority: 80, Resources: []int{1}},
			{Name: "i3", Category: 1, Priority: 83},
		},
		Messages: []api.Message{
			{Name: "m", Kind: api.MsgUnqueued, From: 4, Init: api.MaxNumber, Action: api.Action{Kind: api.ActFlag, Name: "f"}},
			{Name: "s1", Kind: api.MsgSend, Length: 1},
			{Name: "q2", Kind: api.MsgQueued, From: 1, Queue: 16, Action: api.Action{Kind: api.ActEvent, Task: 1, Event: 3}},
			{Name: "u3", Kind: api.MsgUnqueued, From: 1, Init: 255, Action: api.Action{Kind: api.ActTask, Task: 3}},
			{Name: "s4", Kind: api.MsgSend, Length: 8},
			{Name: "q5", Kind: api.MsgQueued, From: 4, Queue: 1, Action: api.Action{Kind: api.ActCallback, Name: "f"}},
			{Name: "u6", Kind: api.MsgUnqueued, From: 1},
		},
	}
}

// wholeTables are the tables of whole, written by hand.
func wholeTables() api.Tables {
	return api.Tables{
		Uses: 131, Modes: 3,
		Rings: []api.RingRow{{Priority: 62, Capacity: 1}, {Priority: 7, Capacity: 4}, {Priority: 0, Capacity: 255}},
		Resources: []api.ResourceRow{
			{Ceiling: 80}, {Ceiling: 80}, {Internal: true, Ceiling: 0}, {Ceiling: 80}, {Internal: true, Ceiling: 62}, {Ceiling: -1}, {Ceiling: 62},
		},
		Tasks: []api.TaskRow{
			{Priority: 0, Ring: 2, Full: true, Limit: 255, Internal: 0, Own: []int{0, 1, 3, 6}, Auto: 5},
			{Priority: 62, Ring: 0, Limit: 1, Mask: 1<<31 + 7, Internal: 62, Own: []int{1, 6}, Auto: 2},
			{Priority: 7, Ring: 1, Limit: 1, Mask: 5, Internal: -1, Own: []int{6}},
			{Priority: 7, Ring: 1, Full: true, Limit: 3, Internal: -1, Own: []int{6}},
		},
		Counters: []api.CounterRow{{Max: 1, Base: 1, Min: 1}, {Max: 2147483647, Base: 2147483647, Min: 9}},
		Alarms: []api.AlarmRow{
			{Counter: 0, Action: api.ActionRow{Kind: api.ActTask, Task: 3}, Auto: 7, Time: 1, Cycle: 1},
			{Counter: 1, Action: api.ActionRow{Kind: api.ActEvent, Task: 2, Mask: 4}},
			{Counter: 1, Action: api.ActionRow{Kind: api.ActCallback}, Auto: 4, Time: 8},
			{Counter: 1, Action: api.ActionRow{Kind: api.ActTask}, Auto: 1, Time: 2147483647, Cycle: 9},
		},
		Isrs: []api.IsrRow{
			{Category: 2, Priority: 65, Own: []int{0, 3}}, {Category: 1, Priority: 126}, {Category: 2, Priority: 80, Own: []int{1}}, {Category: 1, Priority: 83},
		},
		Messages: []api.MessageRow{
			{Kind: api.MsgUnqueued, From: 4, Init: 4294967295, Action: api.ActionRow{Kind: api.ActFlag}},
			{Kind: api.MsgSend, Length: 1},
			{Kind: api.MsgQueued, From: 1, Queue: 16, Action: api.ActionRow{Kind: api.ActEvent, Task: 1, Mask: 1 << 31}},
			{Kind: api.MsgUnqueued, From: 1, Init: 255, Action: api.ActionRow{Kind: api.ActTask, Task: 3}},
			{Kind: api.MsgSend, Length: 8},
			{Kind: api.MsgQueued, From: 4, Queue: 1, Action: api.ActionRow{Kind: api.ActCallback}},
			{Kind: api.MsgUnqueued, From: 1},
		},
		Depth: 3, Frames: 8, Errors: 3, Callbacks: 2,
	}
}

// turned is the ordinary configuration in which something was turned.
func turned(turns ...func(c *api.Config)) api.Config {
	c := whole()
	for _, turn := range turns {
		turn(&c)
	}
	return c
}

// made is what Make gives of a configuration that may be; Check takes it.
func made(t *testing.T, what string, c api.Config) api.Tables {
	t.Helper()
	x, e := table.Make(c)
	if e != api.OK {
		t.Fatalf("%q: Make: %d: %s", what, e, short(c))
	}
	taken(t, what, x)
	return x
}

// makes holds what Make gives against what it must give.
func makes(t *testing.T, what string, c api.Config, want api.Tables) {
	t.Helper()
	if x := made(t, what, c); !same(x, want) {
		t.Errorf("%q: Make: %s, not %s: %s", what, short(x), short(want), short(c))
	}
}

// refused: Make answers the error, and nothing beside it.
func refused(t *testing.T, what string, c api.Config) {
	t.Helper()
	if x, e := table.Make(c); e != api.ErrTables || !same(x, api.Tables{}) {
		t.Errorf("%q: Make: %s %d: %s", what, short(x), e, short(c))
	}
}

// equal holds one part of the tables against what it must be.
func equal[T any](t *testing.T, what string, got, want T) {
	t.Helper()
	if !reflect.DeepEqual(copied(reflect.ValueOf(got)).Interface(), copied(reflect.ValueOf(want)).Interface()) {
		t.Errorf("%q: %s, not %s", what, short(got), short(want))
	}
}

func taken(t *testing.T, what string, x api.Tables) {
	t.Helper()
	if e := table.Check(x); e != api.OK {
		t.Errorf("%q: Check: %d: %s", what, e, short(x))
	}
}

func spoilt(t *testing.T, what string, x api.Tables) {
	t.Helper()
	if e := table.Check(x); e != api.ErrTables {
		t.Errorf("%q: Check: %d: %s", what, e, short(x))
	}
}
