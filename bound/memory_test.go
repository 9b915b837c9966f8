package bound_test

import (
	"reflect"
	"slices"
	"sync"
	"testing"

	"tappet/api"
	"tappet/bound"
)

// answers are what all calls answer.
type answers struct {
	Check   api.Errno
	Blocked []uint64
	Replies []api.Reply
	All     []api.Reply
	E       []api.Errno
}

func asked(c api.Config, f api.Figures, limits []uint64) answers {
	a := answers{Check: bound.Check(c, f)}
	for task := range len(limits) + 1 {
		n, e := bound.Blocked(c, f, task)
		r, e2 := bound.Reckon(c, f, task, 100)
		a.Blocked, a.Replies, a.E = append(a.Blocked, n), append(a.Replies, r), append(a.E, e, e2)
	}
	l, e := bound.All(c, f, limits)
	a.All, a.E = l, append(a.E, e)
	return a
}

// scribble writes over a value, its lists with all the room that they have.
func scribble(v reflect.Value) {
	switch v.Kind() {
	case reflect.Struct:
		for i := range v.NumField() {
			scribble(v.Field(i))
		}
	case reflect.Slice:
		v = v.Slice(0, v.Cap())
		for i := range v.Len() {
			scribble(v.Index(i))
		}
	case reflect.Int:
		v.SetInt(-99)
	case reflect.Uint32, reflect.Uint64:
		v.SetUint(99)
	case reflect.Bool:
		v.SetBool(!v.Bool())
	case reflect.String:
		v.SetString("?")
	}
}

// R3: nothing that is handed in is changed or kept; answers are new memory.
func TestAnswersAreNew(t *testing.T) {
	c, f := small()
	limits := []uint64{57, 39, 40, 5, 23}
	keptConfig, keptFigures, keptLimits := plain(c), plain(f), slices.Clone(limits)
	want := asked(c, f, limits)
	kept := plain(want)
	for range 3 {
		a := asked(c, f, limits)
		scribble(reflect.ValueOf(&a.All).Elem())
		if !alike(want, kept) {
			t.Error("another answer changed")
		}
		if again := asked(c, f, limits); !alike(again, kept) {
			t.Errorf("another answer: %s, not %s", short(again), short(kept))
		}
	}
	if !alike(c, keptConfig) || !alike(f, keptFigures) || !slices.Equal(limits, keptLimits) {
		t.Error("something that was handed in changed")
	}
	// What was handed in is the caller's: written over, it changes no answer.
	for _, v := range []any{&c, &f, &limits} {
		scribble(reflect.ValueOf(v).Elem())
	}
	if !alike(want, kept) {
		t.Error("an answer changed with what was handed in")
	}
	keptConfig, keptFigures = plain(c), plain(f)
	if a := asked(c, f, limits); a.Check != api.ErrArg || len(a.All) > 0 || !alike(c, keptConfig) || !alike(f, keptFigures) {
		t.Errorf("refused: %s", short(a))
	}
}

// R3: lists that stand in a longer room: what is behind them is neither read nor changed.
func TestRoomBehindLists(t *testing.T) {
	c, f := small()
	limits := []uint64{57, 39, 40, 5, 23}
	want := asked(c, f, limits)
	c.Tasks = append(c.Tasks, api.Task{Name: "z", Priority: 0})[:5]
	c.Isrs = append(c.Isrs, api.Isr{Name: "z", Priority: 100})[:2]
	c.Resources = append(c.Resources, api.Resource{Name: "z", Kind: 9})[:7]
	c.Tasks[0].Resources = append(c.Tasks[0].Resources, 6)[:3]
	f.Sections = append(f.Sections, api.Section{Task: 0, Resource: 7, Length: 20})[:3]
	for _, l := range lists(&f) {
		*l = append(*l, 1000)[:len(*l)]
	}
	longer := append(limits, 7)
	if got := asked(c, f, longer[:5]); !alike(got, want) {
		t.Errorf("%s, not %s", short(got), short(want))
	}
	if c.Tasks[:6][5].Name != "z" || c.Isrs[:3][2].Name != "z" || c.Resources[:8][7].Name != "z" || c.Tasks[0].Resources[:4][3] != 6 || f.Sections[:4][3].Length != 20 || longer[5] != 7 {
		t.Error("written over behind a list")
	}
	for _, l := range lists(&f) {
		if (*l)[:len(*l)+1][len(*l)] != 1000 {
			t.Error("written over behind a list of times")
		}
	}
}

// R3: nil and empty lists are the same.
func TestNilAndEmpty(t *testing.T) {
	c, f := example()
	d, g := plain(c), plain(f)
	d.Resources, d.Events, d.Counters, d.Alarms, d.Isrs, d.Messages = []api.Resource{}, []api.Event{}, []api.Counter{}, []api.Alarm{}, []api.Isr{}, []api.Message{}
	for i := range d.Tasks {
		x := &d.Tasks[i]
		x.Auto, x.Resources, x.Events, x.Messages = []int{}, []int{}, []int{}, []int{}
	}
	g.IsrWork, g.IsrEvery, g.Sections = []uint64{}, []uint64{}, []api.Section{}
	limits := []uint64{6, 9, 8}
	if !alike(asked(c, f, limits), asked(d, g, limits)) || !alike(asked(c, f, nil), asked(d, g, []uint64{})) {
		t.Error("other answers")
	}
}

// R4: what was asked ahead counts for nothing, nor what is asked at the same time.
func TestNothingIsKept(t *testing.T) {
	c, f := small()
	x, g := example()
	limits, others := []uint64{57, 39, 40, 5, 23}, []uint64{6, 9, 8}
	want, wantOther := asked(c, f, limits), asked(x, g, others)
	var w sync.WaitGroup
	for range 4 {
		w.Go(func() {
			for range 100 {
				if a := asked(c, f, limits); !alike(a, want) {
					t.Errorf("another answer: %s", short(a))
				}
				if a := asked(x, g, others); !alike(a, wantOther) {
					t.Errorf("another answer: %s", short(a))
				}
				asked(c, g, limits)
				asked(api.Config{}, f, others)
			}
		})
	}
	w.Wait()
}

// What nothing is reckoned from counts for nothing: names, hooks, activations, starts, events, alarms, messages, an ISR's priority among ISRs.
func TestWhatIsLookedAt(t *testing.T) {
	c, f := small()
	limits := []uint64{57, 39, 40, 5, 23}
	want := asked(c, f, limits)
	c.CPU, c.Modes = "z", []string{"x", "y"}
	c.OS = api.Os{Name: "z", Startup: true, Error: true, Shutdown: true, PreTask: true, PostTask: true, Service: true, Params: true, Schedule: true}
	c.Events = []api.Event{{Name: "e", Mask: 1}}
	c.Counters = []api.Counter{{Name: "k", Max: 9, Base: 1, Min: 1}}
	c.Alarms = []api.Alarm{{Name: "a", Action: api.Action{Kind: api.ActTask, Task: 3}, Auto: []int{0}, Time: 1, Cycle: 1}}
	c.Messages = []api.Message{{Name: "m", Kind: api.MsgSend, Length: 1}}
	for i := range c.Tasks {
		x := &c.Tasks[i]
		x.Name, x.Activation, x.Auto, x.Messages = "q"+x.Name, 255-i, []int{0, 1}, []int{0}
	}
	c.Tasks[4].Activation, c.Tasks[4].Events = 1, []int{0}
	c.Isrs[0].Priority, c.Isrs[1].Priority = 64, 127
	if got := asked(c, f, limits); !alike(got, want) {
		t.Errorf("%s, not %s", short(got), short(want))
	}
}
