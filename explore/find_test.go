package explore_test

import (
	"testing"

	"tappet/api"
)

// P28.3: a shorter script comes first, whatever its steps; of one length the one whose first unlike step stands earlier.
func TestOrder(t *testing.T) {
	x, _ := example()
	noop := call(api.SvGetTaskID)
	twice := api.Goal{Kind: api.GoalStatus, A: int(api.ELimit)}
	finds(t, "the longer one stands earlier", x, search(3, noop, activateHigh), twice, []api.Step{activateHigh, activateHigh})
	finds(t, "the longer one stands later", x, search(3, activateHigh, noop), twice, []api.Step{activateHigh, activateHigh})

	high := api.Goal{Kind: api.GoalRun, A: int(api.FTask), B: 1}
	also := call(api.SvActivateTask, 1, 9)
	finds(t, "two of one length", x, search(2, noop, also, activateHigh), high, []api.Step{also})
	finds(t, "two of one length, turned", x, search(2, noop, activateHigh, also), high, []api.Step{activateHigh})

	finds(t, "the last of all steps", x, search(3, noop, activateHigh, terminate), api.Goal{Kind: api.GoalState, B: int(api.Suspended)}, []api.Step{terminate})
	finds(t, "an error", x, search(3, noop, activateHigh, ret()), api.Goal{Kind: api.GoalStatus, A: int(api.EMissingEnd)}, []api.Step{ret()})
	finds(t, "never so deep", x, search(3, noop, activateHigh, terminate), api.Goal{Kind: api.GoalDeep, A: 2}, nil)
}

// P28.3: the second step decides, too; the third.
func TestOrderOfLaterSteps(t *testing.T) {
	x := ordinary()
	get, release := call(api.SvGetResource, 1), call(api.SvReleaseResource, 1)
	taken := api.Goal{Kind: api.GoalStatus, A: int(api.EAccess)}
	finds(t, "taken twice", x, search(3, release, get), taken, []api.Step{get, get})
	alsoGet := call(api.SvGetResource, 1, 1)
	finds(t, "taken twice, by two steps", x, search(3, alsoGet, get), taken, []api.Step{alsoGet, alsoGet})

	waits := api.Goal{Kind: api.GoalState, A: 1, B: int(api.Waiting)}
	wait, alsoWait := call(api.SvWaitEvent, 1), call(api.SvWaitEvent, 2)
	finds(t, "the second of two", x, search(3, alsoWait, wait, activateHigh), waits, []api.Step{activateHigh, alsoWait})
	finds(t, "the second of two, turned", x, search(3, activateHigh, wait, alsoWait), waits, []api.Step{activateHigh, wait})

	low := call(api.SvActivateTask)
	finds(t, "one in a ring", x, search(3, tick(0), low, activateHigh, irq(0)), api.Goal{Kind: api.GoalRing, A: 2, B: 1}, []api.Step{low})
	finds(t, "two in a ring", x, search(4, low, activateHigh), api.Goal{Kind: api.GoalRing, A: 2, B: 2}, nil)
}

// P28.3: the script without steps comes ahead of all others; its answer is idle.
func TestScriptWithoutSteps(t *testing.T) {
	x, s := example()
	for _, g := range []api.Goal{
		{Kind: api.GoalRun, A: int(api.FTask)}, {Kind: api.GoalDeep, A: 1}, {Kind: api.GoalDeep}, {Kind: api.GoalPreempt}, {Kind: api.GoalRing, A: 1},
		{Kind: api.GoalState, B: int(api.Running)}, {Kind: api.GoalState, A: 1, B: int(api.Suspended)},
	} {
		finds(t, "at once", x, s, g, []api.Step{})
		s.Length = 0
		finds(t, "at once, no other", x, s, g, []api.Step{})
		s.Length = 2
	}
	finds(t, "a status", x, s, api.Goal{Kind: api.GoalStatus}, []api.Step{activateHigh})
	s.Length = 0
	for _, g := range []api.Goal{{Kind: api.GoalStatus}, {Kind: api.GoalPreempt, A: 1}, {Kind: api.GoalRing, B: 1}, {Kind: api.GoalDeep, A: 2}, {}, {Kind: 7}} {
		finds(t, "never", x, s, g, nil)
	}
}

// P28.3: the mode is the search's.
func TestModeOfSearch(t *testing.T) {
	x := ordinary()
	s := search(1, activateHigh)
	for mode, task := range []int{0, 2} {
		s.Mode = mode
		finds(t, "who runs", x, s, api.Goal{Kind: api.GoalRun, A: int(api.FTask), B: task}, []api.Step{})
		finds(t, "who does not", x, s, api.Goal{Kind: api.GoalRun, A: int(api.FTask), B: 2 - task}, nil)
	}
	// A start within a script is idle: the kernel is up.
	finds(t, "a start", x, search(2, start(0), start(9)), api.Goal{Kind: api.GoalStatus}, nil)
}

// P28.3: a step that stands twice in the alphabet; the longest script that may be.
func TestFindLong(t *testing.T) {
	x := fitted(api.Tables{
		Tasks:    []api.TaskRow{{Priority: 1, Full: true, Internal: -1}},
		Counters: []api.CounterRow{{Max: 20, Base: 1, Min: 1}},
		Alarms:   []api.AlarmRow{{Action: api.ActionRow{Kind: api.ActTask}, Auto: 1, Time: 12}},
	})
	var all []api.Step
	for range 12 {
		all = append(all, tick(0))
	}
	runs := api.Goal{Kind: api.GoalState, B: int(api.Running)}
	finds(t, "twelve ticks", x, search(12, tick(0)), runs, all)
	finds(t, "twelve ticks of two", x, search(12, tick(0), tick(0)), runs, all)
	finds(t, "eleven ticks", x, search(11, tick(0), tick(0)), runs, nil)
	x.Alarms[0].Time = 3
	finds(t, "twelve ticks, the other step for nothing", x, search(9, irq(0), tick(0), ret()), runs, all[:3])
}
