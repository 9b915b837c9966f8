package explore_test

import (
	"math"
	"testing"

	"tappet/api"
	"tappet/explore"
)

// aLook is one that no kernel gives, with something of each kind.
func aLook() (api.Look, api.Answer) {
	return api.Look{
		Tasks:     []api.TaskLook{{State: api.Running}, {State: api.Suspended}, {State: api.Ready}, {State: 9}},
		Frames:    []api.Frame{{Kind: api.FTask}, {Kind: api.FIsr, ID: 3}, {Kind: api.FCallback, ID: 5, Status: 7, Service: 1}},
		Rings:     [][]int{nil, {4, 4}, {1}},
		Preempted: []int{2, 6},
	}, api.Answer{Status: api.ELimit, Run: api.Frame{Kind: api.FError}}
}

// P28.4: each kind of goal, by hand.
func TestMeets(t *testing.T) {
	l, a := aLook()
	for _, c := range []struct {
		kind api.GoalKind
		a, b int
		want bool
	}{
		{api.GoalRing, 1, 2, true},
		{api.GoalRing, 1, 1, true},
		{api.GoalRing, 1, 3, false},
		{api.GoalRing, 0, 0, true},
		{api.GoalRing, 0, 1, false},
		{api.GoalRing, 2, -5, true},
		{api.GoalRing, 3, 0, false},
		{api.GoalRing, 3, math.MinInt, false},
		{api.GoalRing, -1, 0, false},
		{api.GoalRun, int(api.FCallback), 5, true},
		{api.GoalRun, int(api.FCallback), 3, false},
		{api.GoalRun, int(api.FIsr), 3, false},
		{api.GoalRun, int(api.FTask), 0, false},
		{api.GoalRun, int(api.FError), 0, false},
		{api.GoalStatus, int(api.ELimit), 0, true},
		{api.GoalStatus, int(api.ELimit), 99, true},
		{api.GoalStatus, 0, 0, false},
		{api.GoalStatus, -1, 0, false},
		{api.GoalDeep, 3, 0, true},
		{api.GoalDeep, 3, 99, true},
		{api.GoalDeep, 4, 0, false},
		{api.GoalDeep, 0, 0, true},
		{api.GoalDeep, -1, 0, true},
		{api.GoalPreempt, 2, 0, true},
		{api.GoalPreempt, 2, 99, true},
		{api.GoalPreempt, 3, 0, false},
		{api.GoalPreempt, -1, 0, true},
		{api.GoalState, 0, int(api.Running), true},
		{api.GoalState, 1, int(api.Suspended), true},
		{api.GoalState, 1, int(api.Running), false},
		{api.GoalState, 2, int(api.Ready), true},
		{api.GoalState, 2, int(api.Waiting), false},
		{api.GoalState, 3, 9, true},
		{api.GoalState, 4, 0, false},
		{api.GoalState, -1, 0, false},
		{0, 0, 0, false},
		{7, 0, 0, false},
		{-1, 0, 0, false},
		{math.MaxInt, 0, 0, false},
	} {
		g := api.Goal{Kind: c.kind, A: c.a, B: c.b}
		if got := explore.Meets(g, l, a); got != c.want || metBy(g, l, a) != c.want {
			t.Errorf("Meets(%+v): %v, by the second reading %v, not %v", g, got, metBy(g, l, a), c.want)
		}
	}
}

// P28.4: nothing is there, and an answer that was idle.
func TestMeetsNothing(t *testing.T) {
	l, a := aLook()
	a.Idle = true
	for _, g := range []api.Goal{{Kind: api.GoalStatus, A: int(api.ELimit)}, {Kind: api.GoalStatus}} {
		if explore.Meets(g, l, a) || explore.Meets(g, l, api.Answer{Idle: true}) {
			t.Errorf("%+v is met by an idle answer", g)
		}
	}
	if !explore.Meets(api.Goal{Kind: api.GoalStatus}, api.Look{}, api.Answer{}) {
		t.Error("the zero answer has the status EOK")
	}
	for kind := range api.GoalKind(9) {
		for b := -1; b <= 1; b++ {
			want := kind == api.GoalDeep || kind == api.GoalPreempt
			if g := (api.Goal{Kind: kind, B: b}); explore.Meets(g, api.Look{}, api.Answer{Idle: true}) != want {
				t.Errorf("%+v of nothing: not %v", g, want)
			}
		}
	}
	// There is a last frame, though it is that of no context.
	if g := (api.Goal{Kind: api.GoalRun}); !explore.Meets(g, api.Look{Frames: make([]api.Frame, 1)}, api.Answer{}) || explore.Meets(g, api.Look{}, api.Answer{}) {
		t.Error("the last frame")
	}
}

// P28.4: numbers of nothing, of all kinds.
func TestMeetsFarOff(t *testing.T) {
	l, a := aLook()
	for kind := range api.GoalKind(9) {
		for _, n := range farOff {
			for _, m := range append([]int{0, 1, 2}, farOff...) {
				for _, g := range []api.Goal{{Kind: kind, A: n, B: m}, {Kind: kind, A: m, B: n}} {
					if got, want := explore.Meets(g, l, a), metBy(g, l, a); got != want {
						t.Errorf("Meets(%+v): %v, not %v", g, got, want)
					}
				}
			}
		}
	}
}
