package audit_test

import (
	"reflect"
	"runtime"
	"slices"
	"sync"
	"testing"

	"tappet/api"
	"tappet/audit"
)

// rooms are the stretches of memory in which lists lie, with all the room that they have.
func rooms(v reflect.Value) [][2]uintptr {
	var l [][2]uintptr
	switch v.Kind() {
	case reflect.Slice:
		if v.Cap() > 0 {
			size := v.Type().Elem().Size() * uintptr(v.Cap())
			l = append(l, [2]uintptr{v.Pointer(), v.Pointer() + size})
		}
		for i := range v.Len() {
			l = append(l, rooms(v.Index(i))...)
		}
	case reflect.Struct:
		for i := range v.NumField() {
			l = append(l, rooms(v.Field(i))...)
		}
	}
	return l
}

// apart: no two lists of all these values share memory.
func apart(t *testing.T, all ...any) {
	t.Helper()
	var l [][2]uintptr
	for _, x := range all {
		l = append(l, rooms(reflect.ValueOf(x))...)
	}
	slices.SortFunc(l, func(a, b [2]uintptr) int { return int(a[0]) - int(b[0]) })
	for i := 1; i < len(l); i++ {
		if l[i][0] < l[i-1][1] {
			t.Error("lists share memory")
			return
		}
	}
}

// scribble writes over a value, its lists with all the room that they have.
func scribble(v reflect.Value) {
	switch v.Kind() {
	case reflect.Struct:
		for i := range v.NumField() {
			scribble(v.Field(i))
		}
	case reflect.Array:
		for i := range v.Len() {
			scribble(v.Index(i))
		}
	case reflect.Slice:
		v = v.Slice(0, v.Cap())
		for i := range v.Len() {
			scribble(v.Index(i))
		}
	case reflect.Int:
		v.SetInt(-99)
	case reflect.Uint8, reflect.Uint16, reflect.Uint32, reflect.Uint64:
		v.SetUint(99)
	case reflect.Bool:
		v.SetBool(!v.Bool())
	case reflect.String:
		v.SetString("?")
	}
}

// rich is a trace in which each kind is found, and windows are open and closed.
func rich() api.Trace {
	return of(ok(start(0), task(0)), ok(get(0), task(0)), ok(get(0), task(1)), ok(get(3), task(1)), ok(release(3), task(0)), ok(activate(2), task(0)), ok(activate(3), task(0)), ok(activate(3), task(1)), ok(other(), task(0)),
		ticked(0, task(0), 3), ticked(0, none, 0), ticked(0, task(2), 0, 0), ok(release(1), task(3)))
}

// answers are what all calls answer of a configuration and a trace.
type answers struct {
	Findings []api.Finding
	Windows  []api.Window
	Lines    []string
	E, F     api.Errno
}

func asked(c api.Config, r api.Trace) answers {
	var a answers
	a.Findings, a.E = audit.Check(c, r)
	a.Windows, a.F = audit.Windows(c, r)
	a.Lines = told(a.Findings)
	return a
}

// R3: what is answered is new memory, apart from what was handed in and from another answer; what is written over it changes no later answer, and nothing that was handed in is changed.
func TestAnswersAreNew(t *testing.T) {
	c, r := small(), rich()
	keptConfig, keptTrace := plain(c), plain(r)
	want := asked(c, r)
	kinds := map[api.FindingKind]int{}
	for _, f := range want.Findings {
		kinds[f.Kind]++
	}
	if len(kinds) != 8 || len(want.Windows) < 5 {
		t.Fatalf("not rich: %q, %+v", want.Lines, want.Windows)
	}
	kept := plain(want)
	for range 3 {
		a := asked(c, r)
		apart(t, c, r, want, a)
		scribble(reflect.ValueOf(&a).Elem())
		if !alike(want, kept) {
			t.Error("another answer changed")
		}
		if again := asked(c, r); !alike(again, kept) {
			t.Errorf("another answer: %s, not %s", short(again), short(kept))
		}
	}
	if !alike(c, keptConfig) || !alike(r, keptTrace) {
		t.Error("something that was handed in changed")
	}
	// What was handed in is the caller's: written over, it changes no answer.
	for _, v := range []any{&c, &r} {
		scribble(reflect.ValueOf(v).Elem())
	}
	if !alike(want, kept) {
		t.Error("an answer changed with what was handed in")
	}
	keptConfig, keptTrace = plain(c), plain(r)
	if a := asked(c, r); a.E != api.ErrAudit || a.F != api.ErrAudit || !alike(c, keptConfig) || !alike(r, keptTrace) {
		t.Error("refused:", a)
	}
}

// R3: lists that stand in a longer room: what is behind them is neither read nor changed.
func TestRoomBehindLists(t *testing.T) {
	c, r := small(), rich()
	want := asked(c, r)
	c.Tasks = append(c.Tasks, api.Task{Name: "z", Auto: []int{0}})[:4]
	c.Alarms = append(c.Alarms, api.Alarm{Name: "z", Action: starts(0), Auto: []int{0}, Time: 1})[:4]
	c.Messages = append(c.Messages, api.Message{Kind: api.MsgUnqueued, Action: starts(0)})[:7]
	c.Tasks[3].Auto = append(c.Tasks[3].Auto, 0)[:1]
	c.Tasks[1].Resources = append(c.Tasks[1].Resources, 3)[:2]
	entries := append(r.Entries, ok(get(0), task(0)))
	r.Entries = entries[:len(entries)-1]
	a := &r.Entries[10].Answer
	a.Expired = append(a.Expired, 3, 3)[:1]
	if got := asked(c, r); !alike(got, want) {
		t.Errorf("%s, not %s", short(got), short(want))
	}
	if c.Tasks[:5][4].Name != "z" || c.Alarms[:5][4].Name != "z" || c.Messages[:8][7].Kind != api.MsgUnqueued || entries[len(entries)-1].Step != get(0) || !slices.Equal(a.Expired[:3], []int{0, 3, 3}) {
		t.Error("written over behind a list")
	}
}

// R3: nil and empty lists are the same.
func TestNilAndEmpty(t *testing.T) {
	c := plain(api.Config{CPU: "c", OS: api.Os{Name: "o"}, Modes: []string{"m"}, Tasks: []api.Task{{Name: "a", Priority: 1, Activation: 1, Auto: []int{0}}}})
	d := plain(c)
	d.Resources, d.Events, d.Counters, d.Alarms, d.Isrs, d.Messages = []api.Resource{}, []api.Event{}, []api.Counter{}, []api.Alarm{}, []api.Isr{}, []api.Message{}
	d.Tasks[0].Resources, d.Tasks[0].Events, d.Tasks[0].Messages = []int{}, []int{}, []int{}
	r := of(ok(start(0), task(0)), ok(get(0), task(0)), ticked(0, task(0)), ok(send(0), none), ok(activate(0), none))
	s := plain(r)
	for i := range s.Entries {
		s.Entries[i].Answer.Begun, s.Entries[i].Answer.Expired = []api.Frame{}, []int{}
	}
	if !alike(asked(c, r), asked(d, s)) || !alike(asked(c, api.Trace{}), asked(d, api.Trace{Entries: []api.Traced{}})) {
		t.Error("other answers")
	}
	checked(t, c, r)
}

// R4: what was asked ahead counts for nothing, nor what is asked at the same time.
func TestNothingIsKept(t *testing.T) {
	c, r := small(), rich()
	want := asked(c, r)
	x := example()
	s := exampleTrace(t)
	wantOther := asked(x, s)
	var w sync.WaitGroup
	for range 4 {
		w.Go(func() {
			for range 100 {
				if a := asked(c, r); !alike(a, want) {
					t.Errorf("another answer: %s", short(a))
				}
				if a := asked(x, s); !alike(a, wantOther) {
					t.Errorf("another answer: %s", short(a))
				}
				asked(api.Config{}, r)
			}
		})
	}
	w.Wait()
}

// R1: windows are told in some room for each, also where far more would be found than there are windows.
func TestRoomOfWindows(t *testing.T) {
	c, n := small(), 8192
	var r api.Trace
	for i := range n {
		r.Entries = append(r.Entries, ok(activate(3), task(i%2)))
	}
	var ahead, behind runtime.MemStats
	runtime.ReadMemStats(&ahead)
	l, e := audit.Windows(c, r)
	runtime.ReadMemStats(&behind)
	if room := int(behind.TotalAlloc - ahead.TotalAlloc); e != api.OK || len(l) != n || room > 1000*n {
		t.Errorf("%d, %d windows, %d bytes", e, len(l), room)
	}
	// The first one: no caller at its own entry, and then the tasks 0 and 1 in turn.
	if want := (api.Window{Task: 3, To: -1, Lower: 0, Blocked: n - 1}); l[0] != want {
		t.Errorf("%+v, not %+v", l[0], want)
	}
}
