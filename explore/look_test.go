package explore_test

import (
	"slices"
	"testing"

	"tappet/api"
	"tappet/explore"
)

// marks are those of tables with so many rings in which nothing but the first task ever was.
func marks(rings ...int) api.Marks { return api.Marks{Rings: rings, Frames: 1} }

// P28.2: the script without steps counts for scripts, looks and marks, but has no last step.
func TestNoLength(t *testing.T) {
	x, s := example()
	s.Length = 0
	looks(t, "no steps", x, s, api.Survey{Scripts: []int{1}, Looks: []int{1}, Marks: marks(0, 1)})
	x.Tasks[0].Auto = 0
	looks(t, "nobody runs", x, s, api.Survey{Scripts: []int{1}, Looks: []int{1}, Marks: api.Marks{Rings: []int{0, 0}}})
}

// P28.2: idle steps are counted, with whatever comes behind them.
func TestIdle(t *testing.T) {
	x, s := example()
	s.Steps = []api.Step{terminate}
	s.Length = 4
	looks(t, "one step", x, s, api.Survey{Scripts: []int{1, 1, 1, 1, 1}, Looks: []int{1, 1, 1, 1, 1}, Marks: marks(0, 1), Idle: 3, Status: []api.StatusCount{{Times: 1}}})
	s.Steps = []api.Step{start(0), {Kind: 99}}
	looks(t, "nothing but idle", x, s, api.Survey{Scripts: []int{1, 2, 4, 8, 16}, Looks: []int{1, 1, 1, 1, 1}, Marks: marks(0, 1), Idle: 30})
}

// P28.2: of each script the last step's answer alone is counted; the statuses rise.
func TestStatuses(t *testing.T) {
	x, s := example()
	s.Steps = []api.Step{irq(0), call(99), call(api.SvReleaseResource, 0), call(api.SvStartOS), call(api.SvWaitEvent, 1), call(api.SvGetTaskID), activateHigh}
	s.Length = 1
	looks(t, "statuses", x, s, api.Survey{Scripts: []int{1, 7}, Looks: []int{1, 2}, Marks: api.Marks{Rings: []int{1, 1}, Preempted: 1, Frames: 1, Errors: 1}, Status: []api.StatusCount{
		{Status: api.EOK, Times: 2}, {Status: api.EAccess, Times: 1}, {Status: api.ECallLevel, Times: 1}, {Status: api.EID, Times: 3},
	}})
	s.Steps, s.Length = []api.Step{call(api.SvGetTaskID), call(99)}, 3
	looks(t, "last steps", x, s, api.Survey{Scripts: []int{1, 2, 4, 8}, Looks: []int{1, 1, 1, 1}, Marks: api.Marks{Rings: []int{0, 1}, Frames: 1, Errors: 1}, Status: []api.StatusCount{{Status: api.EOK, Times: 7}, {Status: api.EID, Times: 7}}})
}

// P28.2: a step that stands twice in the alphabet counts as two.
func TestTwice(t *testing.T) {
	x, s := example()
	s.Steps = []api.Step{activateHigh, terminate, activateHigh}
	looks(t, "twice", x, s, api.Survey{
		Scripts: []int{1, 3, 9},
		Looks:   []int{1, 2, 3},
		Marks:   api.Marks{Rings: []int{1, 1}, Preempted: 1, Frames: 1, Errors: 1},
		Idle:    3,
		Status:  []api.StatusCount{{Times: 5}, {Status: api.ELimit, Times: 4}},
	})
}

// P28.2: looks of one length count against one another, not against those of others.
func TestLooksOfEachLength(t *testing.T) {
	x, s := example()
	s.Steps, s.Length = []api.Step{call(api.SvGetTaskID)}, 3
	looks(t, "always the same", x, s, api.Survey{Scripts: []int{1, 1, 1, 1}, Looks: []int{1, 1, 1, 1}, Marks: marks(0, 1), Status: []api.StatusCount{{Times: 3}}})
}

// P28.2: the marks are those of whole scripts, also of what was there for a moment only; each is the greatest of all scripts'.
func TestMarks(t *testing.T) {
	x := ordinary()
	mustBe(t, "ordinary", x)
	for _, c := range []struct {
		what string
		s    api.Search
		want api.Marks
	}{
		{"nothing", search(2, call(api.SvGetTaskID)), api.Marks{Rings: []int{0, 0, 1}, Frames: 1}},
		{"errors", search(1, call(99)), api.Marks{Rings: []int{0, 0, 1}, Frames: 2, Errors: 1}},
		{"a callback", search(2, call(api.SvSetRelAlarm, 1, 1), tick(0)), api.Marks{Rings: []int{0, 0, 1}, Frames: 2, Callbacks: 1, Errors: 1}},
		{"frames", search(2, irq(0), irq(1)), api.Marks{Rings: []int{0, 0, 1}, Frames: 3}},
		{"the extended one", search(2, activateHigh, terminate), api.Marks{Rings: []int{1, 0, 1}, Preempted: 1, Frames: 2, Errors: 1}},
		{"by other scripts each", search(1, activateHigh, irq(0), call(99)), api.Marks{Rings: []int{1, 0, 1}, Preempted: 1, Frames: 2, Errors: 1}},
		{"two of one ring", search(2, irq(0), call(api.SvActivateTask)), api.Marks{Rings: []int{0, 0, 1}, Frames: 2, Errors: 1}},
		{"another mode", api.Search{Mode: 1, Steps: []api.Step{call(api.SvActivateTask)}, Length: 2, Workers: 1}, api.Marks{Rings: []int{0, 1, 2}, Frames: 1}},
	} {
		v, e := explore.Look(x, c.s)
		second := surveyOf(x, c.s, allOf(x, c.s))
		if e != api.OK || !alike(v, second) || !alike(v.Marks, c.want) {
			t.Errorf("%s: %+v, %d, not %+v; by the second reading %+v", c.what, v, e, c.want, second)
		}
	}
}

// P28.2: whatever a look tells counts: two steps behind which one thing differs make two looks, and steps behind which nothing does make one.
func TestWhatDiffers(t *testing.T) {
	x := ordinary()
	own := call(api.SvActivateTask)
	for _, c := range []struct {
		what string
		s    api.Search
		want int
	}{
		{"nothing", search(1, call(api.SvGetTaskID), call(api.SvGetTaskState), call(api.SvGetAlarmBase)), 1},
		{"activations", search(1, call(api.SvGetTaskID), own), 2},
		{"an error's routine", search(1, call(api.SvSetEvent, 1, 1), call(api.SvGetTaskID)), 2},
		{"events set", search(2, activateHigh, call(api.SvSetEvent, 1, 1), call(api.SvSetEvent, 1, 2)), 4},
		{"events waited for", search(2, activateHigh, call(api.SvWaitEvent, 1), call(api.SvWaitEvent, 2)), 5},
		{"resources", search(1, call(api.SvGetResource, 1), call(api.SvGetResource, 0)), 2},
		{"the order of taking", search(2, call(api.SvGetResource, 1), call(api.SvGetResource, 0)), 4},
		{"errors", search(1, call(99), call(98), call(api.SvGetResource, 9), call(api.SvGetResource, 10), call(api.SvReleaseResource, 1)), 5},
		{"requests", search(2, call(api.SvDisableAllInterrupts), irq(0), irq(1)), 9},
		{"what an ISR holds", search(2, irq(0), call(api.SvGetResource, 0), call(api.SvGetTaskID)), 7},
		{"shut", search(1, call(api.SvDisableAllInterrupts), call(api.SvSuspendAllInterrupts), call(api.SvSuspendOSInterrupts), call(api.SvGetTaskID)), 4},
		{"counters", search(2, tick(0), call(api.SvGetTaskID)), 3},
		{"alarms", search(1, call(api.SvSetRelAlarm, 0, 1), call(api.SvSetRelAlarm, 1, 1), call(api.SvSetRelAlarm, 0, 2), call(api.SvSetRelAlarm, 0, 1, 1), call(api.SvSetAbsAlarm, 0, 1)), 4},
		{"the phase", search(1, terminate, call(api.SvShutdownOS)), 2},
	} {
		mustBe(t, c.what, x)
		v, e := explore.Look(x, c.s)
		second := surveyOf(x, c.s, allOf(x, c.s))
		if n := c.s.Length; e != api.OK || !alike(v, second) || v.Looks[n] != c.want {
			t.Errorf("%s: %+v, %d, not %d; by the second reading %+v", c.what, v, e, c.want, second)
		}
	}
}

// P28.2: who is ready in which order.
func TestRings(t *testing.T) {
	row := api.TaskRow{Priority: 1, Internal: -1}
	x := fitted(api.Tables{Tasks: []api.TaskRow{{Priority: 2, Full: true, Internal: -1, Auto: 1}, row, row}})
	s := search(2, activateHigh, call(api.SvActivateTask, 2))
	looks(t, "two orders", x, s, api.Survey{
		Scripts: []int{1, 2, 4}, Looks: []int{1, 2, 4}, Marks: api.Marks{Rings: []int{1, 2}, Frames: 1, Errors: 1},
		Status: []api.StatusCount{{Times: 4}, {Status: api.ELimit, Times: 2}},
	})
}

// P28.2: nearly as many scripts as may be; most of the looks are met by several workers. Each of three steps stands there five times: of a length n each script of the three is counted five to the power of n times.
func TestManyScripts(t *testing.T) {
	x, s := example()
	s.Steps = []api.Step{activateHigh, terminate, call(api.SvGetTaskID)}
	idle, statuses, times := 0, map[api.Status]int{}, 1
	var before api.Survey
	for s.Length = range 5 {
		v := surveyOf(x, s, allOf(x, s))
		idle += times * (v.Idle - before.Idle)
		for _, c := range v.Status {
			statuses[c.Status] += times * c.Times
		}
		for _, c := range before.Status {
			statuses[c.Status] -= times * c.Times
		}
		before, times = v, times*5
	}
	want := api.Survey{Scripts: []int{1, 15, 225, 3375, 50625}, Looks: before.Looks, Marks: before.Marks, Idle: idle}
	for _, status := range []api.Status{api.EOK, api.ELimit} {
		want.Status = append(want.Status, api.StatusCount{Status: status, Times: statuses[status]})
	}
	s.Steps, s.Length = slices.Repeat(s.Steps, 5), 4
	for _, s.Workers = range []int{1, 4, 16} {
		if v, e := explore.Look(x, s); e != api.OK || !alike(v, want) {
			t.Errorf("%+v, %d, not %+v", v, e, want)
		}
	}
}
