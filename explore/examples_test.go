package explore_test

import (
	"slices"
	"testing"

	"tappet/api"
	"tappet/table"
)

func TestExample1(t *testing.T) {
	x, s := example()
	looks(t, "example", x, s, api.Survey{
		Scripts: []int{1, 2, 4},
		Looks:   []int{1, 2, 3},
		Marks:   api.Marks{Rings: []int{1, 1}, Preempted: 1, Frames: 1, Errors: 1},
		Idle:    2,
		Status:  []api.StatusCount{{Status: api.EOK, Times: 3}, {Status: api.ELimit, Times: 1}},
	})
}

func TestExample2(t *testing.T) {
	x, s := example()
	finds(t, "example", x, s, api.Goal{Kind: api.GoalPreempt, A: 1}, []api.Step{activateHigh})
	finds(t, "example", x, s, api.Goal{Kind: api.GoalStatus, A: 4}, []api.Step{activateHigh, activateHigh})
	finds(t, "example", x, s, api.Goal{Kind: api.GoalStatus, A: 6}, nil)
}

func TestExample3(t *testing.T) {
	x, s := example()
	s.Length = 13
	answers(t, "length 13", x, s, api.ErrSearch)
	s.Length, s.Workers = 2, 0
	answers(t, "no workers", x, s, api.ErrSearch)
	s.Length, s.Workers, s.Steps = 5, 3, slices.Repeat(s.Steps, 8)
	answers(t, "sixteen steps", x, s, api.ErrWide)
}

// The example of README.md.
func TestReadme(t *testing.T) {
	x, e := table.Make(api.Config{
		CPU:   "c",
		OS:    api.Os{Name: "o", Schedule: true},
		Modes: []string{"m"},
		Tasks: []api.Task{
			{Name: "t", Priority: 1, Full: true, Activation: 1, Resources: []int{1}, Auto: []int{0}},
			{Name: "u", Priority: 3, Full: true, Activation: 1, Resources: []int{0}},
		},
		Resources: []api.Resource{{Name: "r", Kind: api.ResStandard}, {Name: "s", Kind: api.ResLinked}},
		Isrs:      []api.Isr{{Name: "i", Category: 2, Priority: 70}},
	})
	if e != api.OK {
		t.Fatal(e)
	}
	get, release := call(api.SvGetResource, 1), call(api.SvReleaseResource, 1)
	s := search(4, activateHigh, get, release, terminate)
	s.Workers = 4
	looks(t, "readme", x, s, api.Survey{
		Scripts: []int{1, 4, 16, 64, 256},
		Looks:   []int{1, 4, 5, 5, 5},
		Marks:   api.Marks{Rings: []int{1, 1}, Preempted: 1, Frames: 1, Errors: 1},
		Idle:    116,
		Status: []api.StatusCount{
			{Status: api.EOK, Times: 99}, {Status: api.EAccess, Times: 41}, {Status: api.ELimit, Times: 28}, {Status: api.ENoFunc, Times: 36}, {Status: api.EResource, Times: 20},
		},
	})
	finds(t, "readme: preempted", x, s, api.Goal{Kind: api.GoalPreempt, A: 1}, []api.Step{activateHigh})
	finds(t, "readme: in the ring", x, s, api.Goal{Kind: api.GoalRing, A: 0, B: 1}, []api.Step{get, activateHigh})
	finds(t, "readme: state", x, s, api.Goal{Kind: api.GoalStatus, A: int(api.EState)}, nil)
	s.Length = 8
	answers(t, "readme: wide", x, s, api.ErrWide)
}

// The numbers of errors, kinds and limits that the chapter tells.
func TestNumbers(t *testing.T) {
	if api.ErrSearch != 280 || api.ErrWide != 281 || api.MaxAlphabet != 16 || api.MaxLength != 12 || api.MaxScripts != 65536 || api.MaxWorkers != 16 {
		t.Error("other numbers than the chapter's")
	}
	if api.GoalRing != 1 || api.GoalRun != 2 || api.GoalStatus != 3 || api.GoalDeep != 4 || api.GoalPreempt != 5 || api.GoalState != 6 {
		t.Error("other kinds of goals than the second reading's")
	}
}
