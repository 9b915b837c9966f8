package model_test

import (
	"reflect"
	"slices"
	"testing"

	"tappet/api"
	"tappet/model"
)

// busy is a machine in which all is there: tasks of all states, a preempted one, an ISR that holds something above the running task, an error's routine above a callback's above that, requests, and callbacks that wait.
func busy(t *testing.T) *pair {
	t.Helper()
	p := up(t, with(api.Os{Error: true, Shutdown: true}), 0)                                       // 3 runs, 0 is ready
	p.steps(t, call(api.SvActivateTask, 1), call(api.SvTerminateTask), call(api.SvSetEvent, 1, 1)) // 1 runs
	p.steps(t, call(api.SvWaitEvent, 2), call(api.SvGetResource, 0), call(api.SvActivateTask, 0))  // 0 runs
	p.steps(t, call(api.SvActivateTask, 4), call(api.SvActivateTask, 5), call(api.SvSetRelAlarm, 3, 1, 2))
	p.steps(t, call(api.SvSetRelAlarm, 4, 1, 1), call(api.SvGetResource, 4), call(api.SvSuspendOSInterrupts), call(api.SvResumeOSInterrupts))
	p.steps(t, irq(0), call(api.SvGetResource, 2), irq(0), irq(1), call(api.SvGetResource, 3), call(api.SvSuspendOSInterrupts), irq(1))
	p.steps(t, tick(1), call(99), tick(1))
	p.stands(t)
	return p
}

// P23.3: the look of a machine in which all is there, told by hand.
func TestLook(t *testing.T) {
	want := api.Look{
		Phase: api.Up,
		Tasks: []api.TaskLook{
			{State: api.Ready, Priority: 3, Active: 2, Held: []int{0}},
			{State: api.Waiting, Priority: 3, Active: 1, Set: 1, Waits: 2},
			{State: api.Suspended, Priority: 2},
			{State: api.Suspended, Priority: 2},
			{State: api.Running, Priority: 5, Active: 1, Held: []int{4}},
			{State: api.Ready, Priority: 1, Active: 2},
		},
		Frames:    []api.Frame{task(4), isr(0), isr(1), callback(4), failed(api.EID, 99, 0)},
		Requested: []int{0, 1},
		Held:      [][]int{{2}, {3}, nil},
		Os:        1,
		Counters:  []uint32{0, 2},
		Alarms:    []api.AlarmLook{{Set: true, Left: 3, Cycle: 3}, {}, {Set: true, Left: 9}, {Set: true, Left: 1, Cycle: 2}, {Set: true, Left: 1, Cycle: 1}},
		Rings:     [][]int{nil, nil, nil, {0, 5, 5}},
		Preempted: []int{0},
	}
	p := busy(t)
	if l := plain(p.m.Look()); !reflect.DeepEqual(l, plain(want)) {
		t.Errorf("Look: %+v, not %+v", l, want)
	}
}

// P23.3: what else a look tells: the mode, shut, the count of all, an internal resource, things held in the order of taking.
func TestLookAtTheRest(t *testing.T) {
	p := up(t, bare(), 1)
	p.steps(t, call(api.SvDisableAllInterrupts), call(api.SvSuspendAllInterrupts), call(api.SvSuspendAllInterrupts))
	if l := p.m.Look(); l.Mode != 1 || !l.Shut || l.All != 2 || l.Os != 0 || !l.Tasks[3].Internal || l.Tasks[3].Priority != 3 {
		t.Errorf("Look: %+v", l)
	}
	q := up(t, bare(), 0)
	q.steps(t, call(api.SvTerminateTask), call(api.SvGetResource, 4), call(api.SvGetResource, 2), call(api.SvGetResource, 0))
	if l := q.m.Look(); !slices.Equal(l.Tasks[0].Held, []int{4, 2, 0}) || l.Tasks[0].Priority != 70 {
		t.Errorf("Look: %+v", l)
	}
	q.steps(t, call(api.SvReleaseResource, 0), call(api.SvReleaseResource, 2))
	if l := q.m.Look(); l.Tasks[0].Priority != 5 {
		t.Errorf("Look: %+v", l)
	}
}

// P23.4: a ring of the least priority is filled to the last by an ISR; the stack of the preempted by one task of each priority.
func TestRoomsAreFilled(t *testing.T) {
	p := up(t, bare(), 0)
	p.steps(t, call(api.SvTerminateTask), call(api.SvTerminateTask), irq(0))
	for _, n := range []uint32{5, 5, 0, 0} {
		is(t, p.step(t, call(api.SvActivateTask, n)), api.EOK)
	}
	if l := p.m.Look(); !slices.Equal(l.Rings[3], []int{5, 5, 0, 0}) {
		t.Errorf("Look: %+v", l)
	}
	c := example()
	c.Tasks = nil
	for n := range api.MaxPriority + 1 {
		c.Tasks = append(c.Tasks, api.Task{Name: name(n), Priority: n, Full: true, Activation: 1})
	}
	c.Tasks[0].Auto = []int{0}
	q := up(t, c, 0)
	for n := 1; n <= api.MaxPriority; n++ {
		runs(t, q.step(t, call(api.SvActivateTask, uint32(n))), task(n))
	}
	if n := len(q.m.Look().Preempted); n != 63 {
		t.Errorf("%d preempted", n)
	}
	for n := api.MaxPriority - 1; n >= 0; n-- {
		runs(t, q.step(t, call(api.SvTerminateTask)), task(n))
	}
	q.stands(t)
}

// P23.4: four frames beside the ISRs: the task, a hook, a callback and an error.
func TestFourFrames(t *testing.T) {
	p := at(t, api.LevelTask)
	p.steps(t, call(api.SvSetRelAlarm, 4, 1, 0), call(api.SvTerminateTask), tick(1), call(99))
	framesAre(t, p.m, task(3), post(3), callback(4), failed(api.EID, 99, 0))
	p.steps(t, irq(0), irq(1), irq(2), ret(), ret(), ret())
	p.stands(t)
}

// Resources that are linked: each is taken by itself, and all of them have one ceiling.
func TestLinkedResources(t *testing.T) {
	c := example()
	c.Resources = []api.Resource{{Name: "l", Kind: api.ResLinked, Link: 2}, {Name: "m", Kind: api.ResLinked, Link: 0}, {Name: "s", Kind: api.ResStandard}, {Name: "n", Kind: api.ResStandard}}
	c.Tasks[0].Resources, c.Tasks[1].Resources = []int{0, 2}, []int{1}
	p := up(t, c, 0)
	is(t, p.step(t, call(api.SvGetResource, 4)), api.EID) // the OS has no RES_SCHEDULER
	p.step(t, ret())
	for _, n := range []uint32{1, 3} { // the other's, and nobody's
		is(t, p.step(t, call(api.SvGetResource, n)), api.EAccess)
		p.step(t, ret())
	}
	is(t, p.step(t, call(api.SvGetResource, 0)), api.EOK)
	runs(t, p.step(t, call(api.SvActivateTask, 1)), task(0)) // the ceiling is 2
	is(t, p.step(t, call(api.SvGetResource, 2)), api.EOK)
	is(t, p.step(t, call(api.SvReleaseResource, 2)), api.EOK)
	runs(t, p.step(t, call(api.SvReleaseResource, 0)), task(1))
	is(t, p.step(t, call(api.SvGetResource, 1)), api.EOK)
	p.stands(t)
}

// P23.3: Run answers as the steps of one machine do.
func TestRun(t *testing.T) {
	c := chance(11)
	p := newPair(t, ordinary())
	var script []api.Step
	var want []api.Answer
	for range 400 {
		s := c.step(p.c, p.m.Look())
		script, want = append(script, s), append(want, p.step(t, s))
	}
	kept := slices.Clone(script)
	for range 2 { // two runs know nothing of one another
		got, e := model.Run(ordinary(), script)
		if e != api.OK || len(got) != len(want) {
			t.Fatalf("%d answers, %d", len(got), e)
		}
		for i := range got {
			if a := plainAnswer(got[i]); !reflect.DeepEqual(a, want[i]) {
				t.Fatalf("step %d, %+v: %+v, not %+v", i, script[i], a, want[i])
			}
		}
	}
	if !slices.Equal(kept, script) {
		t.Error("the script was changed")
	}
	if l, e := model.Run(ordinary(), nil); len(l) != 0 || e != api.OK {
		t.Error("Run of nothing:", l, e)
	}
}
