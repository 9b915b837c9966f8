package explore_test

import (
	"fmt"
	"math"
	"reflect"
	"slices"
	"testing"

	"tappet/api"
	"tappet/explore"
	"tappet/table"
)

// farOff are numbers of nothing.
var farOff = []int{-1, -2, -16, 17, 64, 256, 257, 1 << 16, 1 << 31, 1<<32 - 1, 1 << 32, 1<<32 + 1, math.MaxInt, math.MinInt}

// fitted gives tables the rings of their tasks, and the room that their rows need; a task without a Limit has 1.
func fitted(x api.Tables) api.Tables {
	x.Modes, x.Rings = max(x.Modes, 1), nil
	for p := api.MaxPriority; p >= 0; p-- {
		ring := api.RingRow{Priority: p}
		for i := range x.Tasks {
			if row := &x.Tasks[i]; row.Priority == p {
				row.Ring, row.Limit = len(x.Rings), max(row.Limit, 1)
				ring.Capacity += row.Limit
			}
		}
		if ring.Capacity > 0 {
			x.Rings = append(x.Rings, ring)
		}
	}
	x.Depth, x.Frames, x.Errors, x.Callbacks = len(x.Rings), len(x.Isrs)+4, 2, 0
	alarms := make([]int, len(x.Counters))
	for _, a := range x.Alarms {
		alarms[a.Counter]++
		x.Errors = max(x.Errors, alarms[a.Counter])
		if a.Action.Kind == api.ActCallback {
			x.Callbacks++
		}
	}
	return x
}

// The steps, by short names.
func irq(isr int) api.Step      { return api.Step{Kind: api.SIrq, ID: isr} }
func tick(counter int) api.Step { return api.Step{Kind: api.STick, ID: counter} }
func ret() api.Step             { return api.Step{Kind: api.SReturn} }
func start(mode int) api.Step   { return api.Step{Kind: api.SStart, ID: mode} }

// call is a call with up to three parameters.
func call(service int, params ...uint32) api.Step {
	s := api.Step{Kind: api.SCall, Service: service}
	for i, p := range []*uint32{&s.A, &s.B, &s.C} {
		if i < len(params) {
			*p = params[i]
		}
	}
	return s
}

var (
	activateHigh = call(api.SvActivateTask, 1)
	terminate    = call(api.SvTerminateTask)
)

func search(length int, steps ...api.Step) api.Search {
	return api.Search{Steps: steps, Length: length, Workers: 3}
}

// example is that of the chapter: the task 0 is low, 1 is high.
func example() (api.Tables, api.Search) {
	return fitted(api.Tables{Tasks: []api.TaskRow{{Priority: 1, Full: true, Internal: -1, Auto: 1}, {Priority: 2, Full: true, Internal: -1}}}), search(2, activateHigh, terminate)
}

// ordinary are tables with all that may be: tasks 0 (low, twice at most, starts by itself in the mode 0), 1 (extended, above it), 2 (not full, between them, with an internal resource of ceiling 3, starts by itself in the mode 1); resources 0 (of 0 and the ISR 0), 1 (of 0 and 1), 2 (internal); a counter; alarms 0 (activates 2), 1 (a callback), 2 (sets an event of 1); ISRs 0 of category 2, 1 of category 1; the hook for errors.
func ordinary() api.Tables {
	return fitted(api.Tables{
		Uses:  api.UseError,
		Modes: 2,
		Tasks: []api.TaskRow{
			{Priority: 1, Full: true, Limit: 2, Internal: -1, Own: []int{0, 1}, Auto: 1},
			{Priority: 3, Full: true, Mask: 3, Internal: -1, Own: []int{1}},
			{Priority: 2, Limit: 1, Internal: 3, Auto: 2},
		},
		Resources: []api.ResourceRow{{Ceiling: 70}, {Ceiling: 3}, {Internal: true, Ceiling: 3}},
		Counters:  []api.CounterRow{{Max: 9, Base: 4, Min: 1}},
		Alarms: []api.AlarmRow{
			{Action: api.ActionRow{Kind: api.ActTask, Task: 2}},
			{Action: api.ActionRow{Kind: api.ActCallback}},
			{Action: api.ActionRow{Kind: api.ActEvent, Task: 1, Mask: 2}},
		},
		Isrs: []api.IsrRow{{Category: 2, Priority: 70, Own: []int{0}}, {Category: 1, Priority: 90}},
	})
}

// work is an alphabet that gets on with ordinary tables.
func work() []api.Step {
	return []api.Step{
		call(api.SvActivateTask, 1), call(api.SvWaitEvent, 2), call(api.SvGetResource, 1), call(api.SvSetRelAlarm, 1, 1), tick(0), irq(0), ret(),
	}
}

func mustBe(t *testing.T, what string, x api.Tables) {
	t.Helper()
	if e := table.Check(x); e != api.OK {
		t.Fatalf("%s: the tables may not be: %d: %s", what, e, short(x))
	}
}

// goals are some of each kind.
func goals() []api.Goal {
	var l []api.Goal
	for kind := range api.GoalKind(8) {
		for a := -1; a < 5; a++ {
			for b := -1; b < 4; b++ {
				l = append(l, api.Goal{Kind: kind, A: a, B: b})
			}
		}
	}
	return l
}

func checks(t *testing.T, x api.Tables, s api.Search, want api.Errno) {
	t.Helper()
	if e := explore.Check(x, s); e != want {
		t.Errorf("Check of %d steps, length %d: %d, not %d", len(s.Steps), s.Length, e, want)
	}
}

// answers: every call answers this error, and nothing else.
func answers(t *testing.T, what string, x api.Tables, s api.Search, want api.Errno) {
	t.Helper()
	if e := explore.Check(x, s); e != want {
		t.Errorf("%s: Check: %d, not %d", what, e, want)
	}
	if want == api.OK {
		return
	}
	if v, e := explore.Look(x, s); e != want || !alike(v, api.Survey{}) {
		t.Errorf("%s: Look: %+v, %d, not %d", what, v, e, want)
	}
	for _, g := range []api.Goal{{}, {Kind: api.GoalDeep}, {Kind: api.GoalState, B: int(api.Suspended)}} {
		if l, ok, e := explore.Find(x, s, g); e != want || ok || len(l) > 0 {
			t.Errorf("%s: Find: %+v, %v, %d, not %d", what, l, ok, e, want)
		}
	}
}

// looks: this is what Look tells, and what the second reading tells.
func looks(t *testing.T, what string, x api.Tables, s api.Search, want api.Survey) {
	t.Helper()
	mustBe(t, what, x)
	if v, e := explore.Look(x, s); e != api.OK || !alike(v, want) {
		t.Errorf("%s: %+v, %d, not %+v", what, v, e, want)
	}
	if v := surveyOf(x, s, allOf(x, s)); !alike(v, want) {
		t.Errorf("%s: the second reading tells %+v, not %+v", what, v, want)
	}
}

// finds: this is what Find tells, and what the second reading tells; a nil script: none.
func finds(t *testing.T, what string, x api.Tables, s api.Search, g api.Goal, want []api.Step) {
	t.Helper()
	mustBe(t, what, x)
	if l, ok, e := explore.Find(x, s, g); e != api.OK || ok != (want != nil) || !slices.Equal(l, want) {
		t.Errorf("%s: Find(%+v): %+v, %v, %d, not %+v", what, g, l, ok, e, want)
	}
	if l, ok := foundOf(allOf(x, s), g); ok != (want != nil) || !slices.Equal(l, want) {
		t.Errorf("%s: the second reading finds %+v, %v, not %+v", what, l, ok, want)
	}
}

// plain is a copy in new memory, in which each empty list is nil.
func plain[T any](x T) T {
	v := reflect.New(reflect.TypeOf(x)).Elem()
	v.Set(copied(reflect.ValueOf(x)))
	return v.Interface().(T)
}

func copied(v reflect.Value) reflect.Value {
	out := reflect.New(v.Type()).Elem()
	switch v.Kind() {
	case reflect.Slice:
		if v.Len() > 0 {
			out = reflect.MakeSlice(v.Type(), v.Len(), v.Len())
		}
		for i := range v.Len() {
			out.Index(i).Set(copied(v.Index(i)))
		}
	case reflect.Struct:
		for i := range v.NumField() {
			out.Field(i).Set(copied(v.Field(i)))
		}
	default:
		out.Set(v)
	}
	return out
}

// alike: nil and empty lists are one.
func alike[T any](a, b T) bool { return reflect.DeepEqual(plain(a), plain(b)) }

// short is what a failing test says of something that may be long.
func short(x any) string {
	s := fmt.Sprintf("%+v", x)
	return fmt.Sprintf("%q", s[:min(len(s), 3000)])
}
