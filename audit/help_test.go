package audit_test

import (
	"fmt"
	"math"
	"reflect"
	"slices"
	"testing"

	"tappet/api"
	"tappet/audit"
	"tappet/class"
)

// beyond are numbers of nothing, where there are at most 256 of a kind.
var beyond = []int{-1, -2, -64, 256, 257, 1 << 16, 1 << 31, 1<<32 - 1, 1 << 32, 1<<32 + 1, math.MaxInt, math.MinInt}

// small is a configuration for traces written by hand. Tasks: 0 (low, twice), 1 (once), 2 and 3 (of one priority; 2 thrice, not full). Resources: 1 is linked to 0, 2 is internal, 3 is of ceiling 3, 4 is RES_SCHEDULER. Alarms: 0, 1 and 3 are of the counter 0, 2 of the counter 1. Messages: 1 to 3 are received of 0, 5 and 6 of 4.
func small() api.Config {
	return api.Config{
		CPU:   "c",
		OS:    api.Os{Name: "o", Schedule: true},
		Modes: []string{"m", "n"},
		Tasks: []api.Task{
			{Name: "a", Priority: 1, Full: true, Activation: 2, Auto: []int{0}, Resources: []int{0, 1}},
			{Name: "b", Priority: 2, Full: true, Activation: 1, Auto: []int{0, 1}, Resources: []int{0, 2}},
			{Name: "c", Priority: 3, Activation: 3, Resources: []int{3}},
			{Name: "d", Priority: 3, Full: true, Activation: 1, Auto: []int{1}},
		},
		Resources: []api.Resource{{Name: "r", Kind: api.ResStandard}, {Name: "s", Kind: api.ResLinked}, {Name: "t", Kind: api.ResInternal}, {Name: "u", Kind: api.ResStandard}},
		Counters:  []api.Counter{{Name: "k", Max: 9, Base: 1, Min: 1}, {Name: "l", Max: 3, Base: 1, Min: 1}},
		Alarms: []api.Alarm{
			{Name: "a", Action: starts(2), Auto: []int{0}, Time: 2, Cycle: 3},
			{Name: "b", Action: api.Action{Kind: api.ActCallback, Name: "f"}, Auto: []int{0, 1}, Time: 2},
			{Name: "c", Counter: 1, Action: starts(3)},
			{Name: "d", Action: starts(1)},
		},
		Isrs: []api.Isr{{Name: "i", Category: 2, Priority: 70, Resources: []int{0}}, {Name: "j", Category: 1, Priority: 90}},
		Messages: []api.Message{
			{Name: "g", Kind: api.MsgSend, Length: 1},
			{Name: "h", Kind: api.MsgQueued, From: 0, Queue: 2, Action: starts(2)},
			{Name: "i", Kind: api.MsgUnqueued, From: 0, Action: starts(3)},
			{Name: "j", Kind: api.MsgQueued, From: 0, Queue: 1},
			{Name: "k", Kind: api.MsgSend, Length: 8},
			{Name: "l", Kind: api.MsgQueued, From: 4, Queue: 3, Action: starts(1)},
			{Name: "m", Kind: api.MsgUnqueued, From: 4, Action: api.Action{Kind: api.ActCallback, Name: "f"}},
		},
	}
}

func starts(n int) api.Action { return api.Action{Kind: api.ActTask, Task: n} }

// The steps, by short names.
func start(mode int) api.Step   { return api.Step{Kind: api.SStart, ID: mode} }
func irq(isr int) api.Step      { return api.Step{Kind: api.SIrq, ID: isr} }
func tick(counter int) api.Step { return api.Step{Kind: api.STick, ID: counter} }
func ret() api.Step             { return api.Step{Kind: api.SReturn} }

// call is a call with up to three parameters.
func call(service int, params ...uint32) api.Step {
	s := api.Step{Kind: api.SCall, Service: service}
	for i, p := range []*uint32{&s.A, &s.B, &s.C} {
		if i < len(params) {
			*p = params[i]
		}
	}
	return s
}

func activate(n uint32) api.Step { return call(api.SvActivateTask, n) }
func chain(n uint32) api.Step    { return call(api.SvChainTask, n) }
func terminate() api.Step        { return call(api.SvTerminateTask) }
func get(n uint32) api.Step      { return call(api.SvGetResource, n) }
func release(n uint32) api.Step  { return call(api.SvReleaseResource, n) }
func send(n uint32) api.Step     { return call(api.SvSendMessage, n) }
func receive(n uint32) api.Step  { return call(api.SvReceiveMessage, n) }

// other is a call that does nothing to the book.
func other() api.Step { return call(api.SvGetTaskID) }

// The contexts.
var none api.Frame

func task(id int) api.Frame             { return api.Frame{Kind: api.FTask, ID: id} }
func isr(id int) api.Frame              { return api.Frame{Kind: api.FIsr, ID: id} }
func hook(kind api.FrameKind) api.Frame { return api.Frame{Kind: kind} }

// routines are the contexts that are neither tasks nor ISRs, and such as there are none.
func routines() []api.Frame {
	var l []api.Frame
	for k := api.FStartup; k <= api.FCallback+1; k++ {
		l = append(l, api.Frame{Kind: k}, api.Frame{Kind: k, ID: 1})
	}
	for _, n := range beyond {
		l = append(l, task(n), isr(n), api.Frame{Kind: api.FrameKind(n), ID: 1})
	}
	return append(l, task(4), isr(2), none, api.Frame{ID: 1})
}

// The entries, by what was answered: EOK, another status, that it was idle; the context that ran behind them.
func ok(s api.Step, run api.Frame) api.Traced { return said(api.EOK, s, run) }

func said(status api.Status, s api.Step, run api.Frame) api.Traced {
	return api.Traced{Step: s, Answer: api.Answer{Status: status, Run: run}}
}

func idle(s api.Step, run api.Frame) api.Traced {
	return api.Traced{Step: s, Answer: api.Answer{Idle: true, Run: run}}
}

// ticked is a tick of which it is told that these alarms expired.
func ticked(counter int, run api.Frame, expired ...int) api.Traced {
	return api.Traced{Step: tick(counter), Answer: api.Answer{Run: run, Expired: expired}}
}

// up is the beginning of most traces: started in a mode that there is not, so that nothing was asked and no alarm is set.
func up(run api.Frame) api.Traced { return ok(start(9), run) }

// of is a trace of these entries.
func of(l ...api.Traced) api.Trace { return api.Trace{Entries: l} }

// told are findings, a line each.
func told(l []api.Finding) []string {
	var s []string
	for _, f := range l {
		s = append(s, audit.Tell(f))
	}
	return s
}

// checked are the findings; they must be those of the second reading, which holds of the windows, too.
func checked(t *testing.T, c api.Config, r api.Trace) []api.Finding {
	t.Helper()
	if v := class.Check(c); v.Code != api.OK {
		t.Fatalf("the configuration may not be: %+v", v)
	}
	findings, windows := readingOf(c, r)
	l, e := audit.Check(c, r)
	if e != api.OK || !slices.Equal(l, findings) {
		t.Fatalf("Check: %d, %q, not %q, of %s", e, told(l), told(findings), short(r.Entries))
	}
	w, e := audit.Windows(c, r)
	if e != api.OK || !slices.Equal(w, windows) {
		t.Fatalf("Windows: %d, %+v, not %+v, of %s", e, w, windows, short(r.Entries))
	}
	return l
}

// finds: these findings, and no others, are found in a trace.
func finds(t *testing.T, what string, c api.Config, r api.Trace, want ...string) {
	t.Helper()
	if l := told(checked(t, c, r)); !slices.Equal(l, want) {
		t.Errorf("%s: %q, not %q", what, l, want)
	}
}

// waits: these are the windows of a trace.
func waits(t *testing.T, what string, c api.Config, r api.Trace, want ...api.Window) {
	t.Helper()
	checked(t, c, r)
	if l, _ := audit.Windows(c, r); !slices.Equal(l, want) {
		t.Errorf("%s: %+v, not %+v", what, l, want)
	}
}

// window is one behind nobody.
func window(task, from, to int) api.Window {
	return api.Window{Task: task, From: from, To: to, Lower: -1}
}

// plain is a copy in new memory, in which each empty list is nil.
func plain[T any](x T) T {
	v := reflect.New(reflect.TypeOf(x)).Elem()
	v.Set(copied(reflect.ValueOf(x)))
	return v.Interface().(T)
}

func copied(v reflect.Value) reflect.Value {
	out := reflect.New(v.Type()).Elem()
	switch v.Kind() {
	case reflect.Slice:
		if v.Len() > 0 {
			out = reflect.MakeSlice(v.Type(), v.Len(), v.Len())
		}
		for i := range v.Len() {
			out.Index(i).Set(copied(v.Index(i)))
		}
	case reflect.Struct:
		for i := range v.NumField() {
			out.Field(i).Set(copied(v.Field(i)))
		}
	default:
		out.Set(v)
	}
	return out
}

// alike: nil and empty lists are one.
func alike[T any](a, b T) bool { return reflect.DeepEqual(plain(a), plain(b)) }

// short is what a failing test says of something that may be long.
func short(x any) string {
	s := fmt.Sprintf("%+v", x)
	return fmt.Sprintf("%q", s[:min(len(s), 3000)])
}
