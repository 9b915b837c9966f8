package trace_test

import (
	"bytes"
	"slices"
	"testing"

	"tappet/api"
	"tappet/trace"
)

// example are the tables of chapter 23's examples.
func example(t *testing.T) api.Tables {
	t.Helper()
	return tablesOf(t, api.Config{
		CPU:   "c",
		OS:    api.Os{Name: "o", Error: true},
		Modes: []string{"m"},
		Tasks: []api.Task{{Name: "low", Priority: 1, Full: true, Activation: 1, Auto: []int{0}}, {Name: "high", Priority: 2, Full: true, Activation: 1}},
	})
}

// exampleSteps are the first example's.
func exampleSteps() []api.Step {
	return []api.Step{start(0), call(api.SvActivateTask, 1), call(api.SvActivateTask, 1), ret(), call(api.SvTerminateTask)}
}

func TestExample1(t *testing.T) {
	r := recorded(t, example(t), exampleSteps())
	want := []api.Stretch{{Run: task(0), From: 0, To: 1}, {Run: task(1), From: 1, To: 2}, {Run: failed(api.ELimit, 4, 1), From: 2, To: 3}, {Run: task(1), From: 3, To: 4}, {Run: task(0), From: 4, To: 5}}
	if l := trace.Stretches(r); !slices.Equal(l, want) {
		t.Errorf("Stretches: %+v", l)
	}
	if l := trace.Uses(r, 2); !slices.Equal(l, []api.Use{{Starts: 2, Steps: 2}, {Starts: 2, Steps: 2}}) {
		t.Errorf("Uses: %+v", l)
	}
}

func TestExample2(t *testing.T) {
	ahead := unhex("54 50 54 52 07 00 00 00 00 00")
	b, e := trace.Encode(api.Trace{Sum: 7})
	if e != api.OK || !bytes.Equal(b, sealed(ahead)) {
		t.Errorf("Encode: %d, % x", e, b)
	}
	refuses(t, "nothing", nil)
	refuses(t, "no bytes", []byte{})
}

func TestExample3(t *testing.T) {
	r := recorded(t, example(t), exampleSteps())
	if n, e := trace.Replay(example(t), r); n != -1 || e != api.OK {
		t.Errorf("Replay: %d, %d", n, e)
	}
	r.Entries[1].Answer.Status ^= 1
	if n, e := trace.Replay(example(t), r); n != 1 || e != api.OK {
		t.Errorf("with the second Status turned: %d, %d", n, e)
	}
	r.Sum ^= 1
	if n, e := trace.Replay(example(t), r); n != 0 || e != api.ErrImageOf {
		t.Errorf("with another Sum: %d, %d", n, e)
	}
}
