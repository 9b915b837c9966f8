package trace_test

import (
	"bytes"
	"reflect"
	"slices"
	"sync"
	"testing"

	"tappet/api"
	"tappet/trace"
)

// rooms are the stretches of memory in which lists lie, with all the room that they have.
func rooms(v reflect.Value) [][2]uintptr {
	var l [][2]uintptr
	switch v.Kind() {
	case reflect.Slice:
		if v.Cap() > 0 {
			size := v.Type().Elem().Size() * uintptr(v.Cap())
			l = append(l, [2]uintptr{v.Pointer(), v.Pointer() + size})
		}
		for i := range v.Len() {
			l = append(l, rooms(v.Index(i))...)
		}
	case reflect.Struct:
		for i := range v.NumField() {
			l = append(l, rooms(v.Field(i))...)
		}
	}
	return l
}

// apart: no two lists of all these values share memory.
func apart(t *testing.T, all ...any) {
	t.Helper()
	var l [][2]uintptr
	for _, x := range all {
		l = append(l, rooms(reflect.ValueOf(x))...)
	}
	slices.SortFunc(l, func(a, b [2]uintptr) int { return int(a[0]) - int(b[0]) })
	for i := 1; i < len(l); i++ {
		if l[i][0] < l[i-1][1] {
			t.Error("lists share memory")
			return
		}
	}
}

// scribble writes over a value, its lists with all the room that they have.
func scribble(v reflect.Value) {
	switch v.Kind() {
	case reflect.Struct:
		for i := range v.NumField() {
			scribble(v.Field(i))
		}
	case reflect.Array:
		for i := range v.Len() {
			scribble(v.Index(i))
		}
	case reflect.Slice:
		v = v.Slice(0, v.Cap())
		for i := range v.Len() {
			scribble(v.Index(i))
		}
	case reflect.Int:
		v.SetInt(-99)
	case reflect.Uint8, reflect.Uint16, reflect.Uint32:
		v.SetUint(99)
	case reflect.Bool:
		v.SetBool(!v.Bool())
	}
}

// answers are what all calls answer of tables, steps, a trace and its bytes.
type answers struct {
	Record     api.Trace
	Encode     []byte
	Decode     api.Trace
	Stretches  []api.Stretch
	Uses       []api.Use
	Sum        uint16
	At         int
	E, F, G, H api.Errno
}

func asked(x api.Tables, steps []api.Step, r api.Trace, b []byte) answers {
	var a answers
	a.Record, a.E = trace.Record(x, steps)
	a.Encode, a.F = trace.Encode(r)
	a.Decode, a.G = trace.Decode(b)
	a.Stretches, a.Uses = trace.Stretches(r), trace.Uses(r, 4)
	a.Sum, _ = trace.Sum(x)
	a.At, a.H = trace.Replay(x, r)
	return a
}

// R3: what is answered is new memory, apart from what was handed in and from another answer; what is written over it changes no later answer, and nothing that was handed in is changed.
func TestAnswersAreNew(t *testing.T) {
	x, steps := tablesOf(t, ordinary()), busy()
	r := recordOf(t, x, steps)
	b := bytesOf(r)
	keptTables, keptSteps, keptTrace, keptBytes := plain(x), slices.Clone(steps), plain(r), slices.Clone(b)
	want := asked(x, steps, r, b)
	if want.E+want.F+want.G+want.H != 0 || want.At != -1 || !alike(want.Record, r) || !alike(want.Decode, r) || !bytes.Equal(want.Encode, b) {
		t.Fatalf("not all went well: %s", short(want))
	}
	kept := plain(want)
	for range 3 {
		a := asked(x, steps, r, b)
		apart(t, x, steps, r, b, want, a)
		scribble(reflect.ValueOf(&a).Elem())
		if !alike(want, kept) {
			t.Error("another answer changed")
		}
		if again := asked(x, steps, r, b); !alike(again, kept) {
			t.Errorf("another answer: %s, not %s", short(again), short(kept))
		}
	}
	if !alike(x, keptTables) || !slices.Equal(steps, keptSteps) || !alike(r, keptTrace) || !bytes.Equal(b, keptBytes) {
		t.Error("something that was handed in changed")
	}
	// What was handed in is the caller's: written over, it changes no answer.
	for _, v := range []any{&x, &steps, &r, &b} {
		scribble(reflect.ValueOf(v).Elem())
	}
	if !alike(want, kept) {
		t.Error("an answer changed with what was handed in")
	}
}

// R2, R3: refused calls change nothing, either.
func TestRefusedChangesNothing(t *testing.T) {
	x, r := tablesOf(t, ordinary()), whole()
	x.Depth++
	r.Entries[2].Step.ID = -1
	b := sealed(wholeBytes())
	b[20]++
	keptTables, keptTrace, keptBytes := plain(x), plain(r), slices.Clone(b)
	for range 2 {
		asked(x, busy(), r, b)
	}
	if !alike(x, keptTables) || !alike(r, keptTrace) || !bytes.Equal(b, keptBytes) {
		t.Error("changed")
	}
}

// R3: lists that stand in a longer room: what is behind them is neither read nor changed.
func TestRoomBehindLists(t *testing.T) {
	r := whole()
	r.Entries = append(r.Entries, api.Traced{Step: api.Step{ID: -1}})[:3]
	a := &r.Entries[0].Answer
	a.Begun = append(a.Begun, api.Frame{Kind: -1})[:2]
	a.Expired = append(a.Expired, 256)[:3]
	encodes(t, "room behind", r)
	trace.Stretches(r)
	trace.Uses(r, 2)
	if r.Entries[:4][3].Step.ID != -1 || a.Begun[:3][2].Kind != -1 || a.Expired[:4][3] != 256 {
		t.Error("written over behind a list")
	}
	b := append(sealed(wholeBytes()), 77, 77, 77)
	if s, e := trace.Decode(b[:len(b)-3]); e != api.OK || !alike(s, whole()) {
		t.Errorf("room behind: %d, %+v", e, s)
	}
	refuses(t, "room behind", b[:len(b)-4])
	if !bytes.Equal(b[len(b)-3:], []byte{77, 77, 77}) {
		t.Error("written over behind the bytes")
	}
}

// R3: nil and empty lists are the same.
func TestNilAndEmpty(t *testing.T) {
	empty := api.Trace{Sum: 7, Entries: []api.Traced{{Answer: api.Answer{Begun: []api.Frame{}, Expired: []int{}}}}}
	null := plain(empty)
	b, e := trace.Encode(empty)
	c, f := trace.Encode(null)
	if e != api.OK || f != api.OK || !bytes.Equal(b, c) {
		t.Errorf("%d, % x, %d, % x", e, b, f, c)
	}
	b, e = trace.Encode(api.Trace{Sum: 7, Entries: []api.Traced{}})
	c, f = trace.Encode(api.Trace{Sum: 7})
	if e != api.OK || f != api.OK || !bytes.Equal(b, c) {
		t.Errorf("%d, % x, %d, % x", e, b, f, c)
	}
	x := example(t)
	if r, s := recorded(t, x, nil), recorded(t, x, []api.Step{}); !alike(r, s) {
		t.Errorf("%+v, %+v", r, s)
	}
	x.Counters, x.Alarms, x.Isrs, x.Messages = []api.CounterRow{}, []api.AlarmRow{}, []api.IsrRow{}, []api.MessageRow{}
	if !alike(recorded(t, x, exampleSteps()), recorded(t, example(t), exampleSteps())) {
		t.Error("Record of empty lists")
	}
}

// R4: what was asked ahead counts for nothing, nor what is asked at the same time.
func TestNothingIsKept(t *testing.T) {
	x, steps, r := tablesOf(t, ordinary()), busy(), recorded(t, tablesOf(t, ordinary()), busy())
	b := bytesOf(r)
	want := asked(x, steps, r, b)
	y := example(t)
	other := recorded(t, y, exampleSteps())
	wantOther := asked(y, exampleSteps(), other, bytesOf(other))
	var w sync.WaitGroup
	for range 4 {
		w.Go(func() {
			for range 20 {
				if a := asked(x, steps, r, b); !alike(a, want) {
					t.Errorf("another answer: %s", short(a))
				}
				if a := asked(y, exampleSteps(), other, bytesOf(other)); !alike(a, wantOther) {
					t.Errorf("another answer: %s", short(a))
				}
				asked(api.Tables{}, steps, whole(), b[:20])
			}
		})
	}
	w.Wait()
}
