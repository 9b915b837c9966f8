package event_test

import (
	"testing"

	"tappet/api"
)

// The chapter's first and second example, one behind the other.
func TestExamples1And2(t *testing.T) {
	x := made(t, 3, 0)
	sets(t, x, 0, 1, false)
	if v, s := x.Get(0); v != 1 || s != api.EOK {
		t.Error("Get:", v, s)
	}
	waits(t, x, 0, 2, true)
	waitsAlready(t, x, 0, 1)
	sets(t, x, 0, 2, true)
	if v := x.Waits(0); v != 0 {
		t.Error("Waits:", v)
	}
	if v, s := x.Get(0); v != 3 || s != api.EOK {
		t.Error("Get:", v, s)
	}
	waits(t, x, 0, 3, false)
	clears(t, x, 0, 3)
	if v, s := x.Get(0); v != 0 || s != api.EOK {
		t.Error("Get:", v, s)
	}
}

// Its third one.
func TestExample3(t *testing.T) {
	x := made(t, 3, 0)
	if w, s := x.Set(1, 1); w || s != api.EAccess {
		t.Error("a basic task:", w, s)
	}
	for _, task := range []int{2, -1} {
		if w, s := x.Set(task, 1); w || s != api.EID {
			t.Error("no task:", task, w, s)
		}
	}
}

// Its fourth one.
func TestExample4(t *testing.T) {
	x := made(t, 3, 0)
	waits(t, x, 0, 0, true)
	sets(t, x, 0, 3, false)
	holds(t, x, 0, 3, 0)
	waitsAlready(t, x, 0, 3)
}
