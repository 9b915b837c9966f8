package explore_test

import (
	"reflect"
	"runtime"
	"slices"
	"sync"
	"testing"

	"tappet/api"
	"tappet/explore"
)

// told is what all calls answer.
type told struct {
	Check  api.Errno
	Survey api.Survey
	Found  [][]api.Step
	Ok     []bool
	E      []api.Errno
}

func asked(x api.Tables, s api.Search) told {
	a := told{Check: explore.Check(x, s)}
	v, e := explore.Look(x, s)
	a.Survey, a.E = v, append(a.E, e)
	for _, g := range []api.Goal{{Kind: api.GoalDeep, A: 2}, {Kind: api.GoalStatus}, {Kind: api.GoalState, A: 1, B: int(api.Waiting)}, {Kind: api.GoalStatus, A: 99}} {
		l, ok, e := explore.Find(x, s, g)
		a.Found, a.Ok, a.E = append(a.Found, l), append(a.Ok, ok), append(a.E, e)
	}
	return a
}

// scribble writes over a value, its lists with all the room that they have.
func scribble(v reflect.Value) {
	switch v.Kind() {
	case reflect.Struct:
		for i := range v.NumField() {
			scribble(v.Field(i))
		}
	case reflect.Slice:
		v = v.Slice(0, v.Cap())
		for i := range v.Len() {
			scribble(v.Index(i))
		}
	case reflect.Int:
		v.SetInt(-99)
	case reflect.Uint32, reflect.Uint64:
		v.SetUint(99)
	case reflect.Bool:
		v.SetBool(!v.Bool())
	}
}

// R3: nothing that is handed in is changed or kept; answers are new memory, and no two lists of one share any.
func TestAnswersAreNew(t *testing.T) {
	x, s := ordinary(), search(3, work()...)
	keptTables, keptSearch := plain(x), plain(s)
	want := asked(x, s)
	kept := plain(want)
	for range 2 {
		a := asked(x, s)
		for _, l := range []any{&a.Survey.Scripts, &a.Survey.Looks, &a.Survey.Marks, &a.Survey.Status, &a.Found[0], &a.Found[1]} {
			before := plain(a)
			v := reflect.ValueOf(l).Elem()
			own := reflect.ValueOf(plain(v.Interface()))
			scribble(v)
			v.Set(own)
			if !alike(a, before) {
				t.Error("another list of the answer changed")
			}
		}
		if !alike(want, kept) {
			t.Error("another answer changed")
		}
	}
	if again := asked(x, s); !alike(again, kept) {
		t.Errorf("another answer: %s, not %s", short(again), short(kept))
	}
	if !alike(x, keptTables) || !alike(s, keptSearch) {
		t.Error("something that was handed in changed")
	}
	// What was handed in is the caller's: written over, it changes no answer.
	scribble(reflect.ValueOf(&x).Elem())
	scribble(reflect.ValueOf(&s).Elem())
	if !alike(want, kept) {
		t.Error("an answer changed with what was handed in")
	}
}

// R3: lists that stand in a longer room: what is behind them is neither read nor changed.
func TestRoomBehindLists(t *testing.T) {
	x, s := ordinary(), search(2, work()...)
	want := asked(x, s)
	s.Steps = append(s.Steps, call(99), start(3))[:len(s.Steps)]
	x.Tasks = append(x.Tasks, api.TaskRow{Priority: 63})[:len(x.Tasks)]
	x.Rings = append(x.Rings, api.RingRow{Priority: 63})[:len(x.Rings)]
	behind := plain(s.Steps[:cap(s.Steps)])
	if got := asked(x, s); !alike(got, want) {
		t.Errorf("%s, not %s", short(got), short(want))
	}
	if !slices.Equal(s.Steps[:cap(s.Steps)], behind) || x.Tasks[:len(x.Tasks)+1][len(x.Tasks)].Priority != 63 || x.Rings[:len(x.Rings)+1][len(x.Rings)].Priority != 63 {
		t.Error("written over behind a list")
	}
}

// R3: nil and empty lists are the same.
func TestNilAndEmpty(t *testing.T) {
	x, s := example()
	y := plain(x)
	y.Resources, y.Counters, y.Alarms, y.Isrs, y.Messages = []api.ResourceRow{}, []api.CounterRow{}, []api.AlarmRow{}, []api.IsrRow{}, []api.MessageRow{}
	for i := range y.Tasks {
		y.Tasks[i].Own = []int{}
	}
	if !alike(asked(x, s), asked(y, s)) {
		t.Error("other answers")
	}
	s.Steps = []api.Step{}
	answers(t, "an empty alphabet", x, s, api.ErrSearch)
	// Meets reads empty lists as nil ones.
	for _, g := range goals() {
		if explore.Meets(g, api.Look{Frames: []api.Frame{}, Rings: [][]int{{}}, Preempted: []int{}}, api.Answer{}) != explore.Meets(g, api.Look{Rings: [][]int{nil}}, api.Answer{}) {
			t.Errorf("%+v", g)
		}
	}
}

// R3: Meets changes nothing that is handed in.
func TestMeetsChangesNothing(t *testing.T) {
	l, a := aLook()
	kept, keptAnswer := plain(l), plain(a)
	for _, g := range goals() {
		explore.Meets(g, l, a)
	}
	if !alike(l, kept) || !alike(a, keptAnswer) {
		t.Error("changed")
	}
}

// R4: all goroutines have ended behind a call; but one whose last deed was to tell that may still be on its way out.
func TestGoroutinesEnd(t *testing.T) {
	x, s := ordinary(), search(3, work()...)
	ahead := runtime.NumGoroutine()
	for range 20 {
		asked(x, s)
	}
	for range 100000 {
		if runtime.NumGoroutine() <= ahead {
			return
		}
		runtime.Gosched()
	}
	t.Errorf("%d goroutines, not %d", runtime.NumGoroutine(), ahead)
}

// R4: what was asked ahead counts for nothing, nor what is asked at the same time.
func TestNothingIsKept(t *testing.T) {
	x, s := ordinary(), search(2, work()...)
	y, r := example()
	want, wantOther := asked(x, s), asked(y, r)
	var w sync.WaitGroup
	for range 4 {
		w.Go(func() {
			for range 20 {
				if a := asked(x, s); !alike(a, want) {
					t.Errorf("another answer: %s", short(a))
				}
				if a := asked(y, r); !alike(a, wantOther) {
					t.Errorf("another answer: %s", short(a))
				}
				asked(y, s)
				asked(api.Tables{}, s)
			}
		})
	}
	w.Wait()
}

// R4: the answer is the same under every schedule: by one processor, and by several.
func TestSchedules(t *testing.T) {
	x, s := ordinary(), search(3, work()...)
	s.Workers = 7
	want := asked(x, s)
	defer runtime.GOMAXPROCS(runtime.GOMAXPROCS(1))
	for _, n := range []int{1, 2, 8} {
		runtime.GOMAXPROCS(n)
		for range 3 {
			if a := asked(x, s); !alike(a, want) {
				t.Errorf("with %d: %s, not %s", n, short(a), short(want))
			}
		}
	}
}
