package model_test

import (
	"slices"
	"testing"

	"tappet/api"
)

// M6, M7: TerminateTask: the post task hook's routine begins, and until it has returned the task runs; then the next one, with its own.
func TestTerminate(t *testing.T) {
	p := at(t, api.LevelTask) // 3 runs, 0 is ready
	a := p.step(t, call(api.SvTerminateTask))
	is(t, a, api.EOK)
	runs(t, a, post(3), post(3))
	framesAre(t, p.m, task(3), post(3))
	tells(t, p.step(t, call(api.SvGetTaskID)), 3)
	tells(t, p.step(t, call(api.SvGetTaskState, 3)), 0)
	if l := p.m.Look(); !l.Tasks[3].Internal || l.Tasks[3].Priority != 3 {
		t.Errorf("it has its internal resource no more: %+v", l)
	}
	runs(t, p.step(t, ret()), pre(0), pre(0))
	framesAre(t, p.m, task(0), pre(0))
	tells(t, p.step(t, call(api.SvGetTaskID)), 0)
	tells(t, p.step(t, call(api.SvGetTaskState, 3)), 3)
	runs(t, p.step(t, ret()), task(0))
	runs(t, p.step(t, call(api.SvTerminateTask)), post(0), post(0))
	runs(t, p.step(t, ret()), none)
	idles(t, p.step(t, call(api.SvGetTaskID)), none)
	p.stands(t)
}

// M6: a task that is asked to start twice starts twice.
func TestStartedTwice(t *testing.T) {
	p := up(t, bare(), 1) // 3 runs, 5 is ready
	is(t, p.step(t, call(api.SvActivateTask, 3)), api.EOK)
	is(t, p.step(t, call(api.SvActivateTask, 3)), api.ELimit)
	is(t, p.step(t, call(api.SvActivateTask, 0)), api.EOK)
	is(t, p.step(t, call(api.SvActivateTask, 5)), api.EOK)
	for _, n := range []int{3, 5, 0, 5} {
		runs(t, p.step(t, call(api.SvTerminateTask)), task(n))
	}
	runs(t, p.step(t, call(api.SvTerminateTask)), none)
	p.stands(t)
}

// M6: ChainTask: the errors in their order; another task, and the caller itself.
func TestChain(t *testing.T) {
	p := up(t, bare(), 0) // 3 runs, 0 is ready
	p.step(t, call(api.SvGetResource, 4))
	is(t, p.step(t, call(api.SvChainTask, 6)), api.EID)
	p.step(t, call(api.SvActivateTask, 2))
	is(t, p.step(t, call(api.SvChainTask, 2)), api.EResource)
	p.step(t, call(api.SvReleaseResource, 4))
	is(t, p.step(t, call(api.SvChainTask, 2)), api.ELimit)
	a := p.step(t, call(api.SvChainTask, 4))
	is(t, a, api.EOK)
	runs(t, a, task(4))
	if l := p.m.Look(); l.Tasks[3].State != api.Suspended {
		t.Errorf("it has not ended: %+v", l)
	}
	p.step(t, call(api.SvSetEvent, 4, 4))
	runs(t, p.step(t, call(api.SvChainTask, 4)), task(4)) // its limit is 1
	tells(t, p.step(t, call(api.SvGetEvent, 4)), 0)
	p.step(t, call(api.SvTerminateTask)) // 2 runs
	runs(t, p.step(t, call(api.SvChainTask, 2)), task(2))
	runs(t, p.step(t, call(api.SvTerminateTask)), task(0))
	p.step(t, call(api.SvActivateTask, 5))
	runs(t, p.step(t, call(api.SvChainTask, 0)), task(5)) // it joins the tail
	runs(t, p.step(t, call(api.SvTerminateTask)), task(0))
	p.stands(t)
}

// M7: with hooks: the chained task is activated ahead of the routine.
func TestChainWithHooks(t *testing.T) {
	p := at(t, api.LevelTask)
	runs(t, p.step(t, call(api.SvChainTask, 4)), post(3), post(3))
	tells(t, p.step(t, call(api.SvGetTaskState, 4)), 2)
	runs(t, p.step(t, ret()), pre(4), pre(4))
	runs(t, p.step(t, ret()), task(4))
	runs(t, p.step(t, call(api.SvChainTask, 4)), post(4), post(4))
	tells(t, p.step(t, call(api.SvGetTaskState, 4)), 0)
	runs(t, p.step(t, ret()), pre(4), pre(4))
	p.stands(t)
}

// M6: Schedule: without its internal resource a greater one runs; base priorities are looked at.
func TestSchedule(t *testing.T) {
	p := up(t, bare(), 0) // 3 runs, with an internal resource of ceiling 3
	runs(t, p.step(t, call(api.SvActivateTask, 1)), task(3))
	runs(t, p.step(t, call(api.SvSchedule)), task(1))
	if l := p.m.Look(); l.Tasks[3].Internal || l.Tasks[3].Priority != 2 || !slices.Equal(l.Preempted, []int{3}) {
		t.Errorf("Look: %+v", l)
	}
	runs(t, p.step(t, call(api.SvSchedule)), task(1)) // nobody is above it
	runs(t, p.step(t, call(api.SvTerminateTask)), task(3))
	if l := p.m.Look(); !l.Tasks[3].Internal {
		t.Errorf("it is resumed without its internal resource: %+v", l)
	}
	is(t, p.step(t, call(api.SvActivateTask, 2)), api.EOK)
	runs(t, p.step(t, call(api.SvSchedule)), task(3)) // its own priority is not above
	p.stands(t)
}

// M8, M14: preemption: with its internal resource; the top of the preempted is resumed ahead of a ring of its priority.
func TestPreemption(t *testing.T) {
	p := up(t, ordinary(), 0)
	a := p.step(t, call(api.SvActivateTask, 4))
	is(t, a, api.EOK)
	runs(t, a, post(3), post(3))
	tells(t, p.step(t, call(api.SvGetTaskID)), 3)
	runs(t, p.step(t, ret()), pre(4), pre(4))
	runs(t, p.step(t, ret()), task(4))
	if l := p.m.Look(); !l.Tasks[3].Internal || l.Tasks[3].Priority != 3 || !slices.Equal(l.Preempted, []int{3}) {
		t.Errorf("Look: %+v", l)
	}
	p.step(t, call(api.SvActivateTask, 1)) // not above the preempted one's 3
	p.step(t, call(api.SvTerminateTask))
	runs(t, p.step(t, ret()), pre(3), pre(3))
	p.step(t, ret())
	p.step(t, call(api.SvTerminateTask))
	runs(t, p.step(t, ret()), pre(1), pre(1))
	p.stands(t)
}

// M14: a task that is not full is not preempted, nor one whose current priority is not below the ring's.
func TestNoPreemption(t *testing.T) {
	p := up(t, bare(), 0)
	p.steps(t, call(api.SvActivateTask, 2), call(api.SvTerminateTask)) // 2 runs
	runs(t, p.step(t, call(api.SvActivateTask, 4)), task(2))
	runs(t, p.step(t, call(api.SvTerminateTask)), task(4))
	p.step(t, call(api.SvTerminateTask)) // 0 runs
	runs(t, p.step(t, call(api.SvActivateTask, 5)), task(0))
	p.step(t, call(api.SvGetResource, 0)) // of ceiling 3
	runs(t, p.step(t, call(api.SvActivateTask, 1)), task(0))
	runs(t, p.step(t, call(api.SvReleaseResource, 0)), task(1))
	p.stands(t)
}

// M14: what came while interrupts were shut out preempts behind that.
func TestLatePreemption(t *testing.T) {
	for _, x := range [][2]int{{api.SvDisableAllInterrupts, api.SvEnableAllInterrupts}, {api.SvSuspendAllInterrupts, api.SvResumeAllInterrupts}, {api.SvSuspendOSInterrupts, api.SvResumeOSInterrupts}} {
		p := up(t, bare(), 0)
		p.step(t, call(api.SvTerminateTask)) // 0 runs; the alarm 0 activates 2 at the third tick
		p.steps(t, call(x[0]), call(x[0]), tick(0), tick(0))
		a := p.step(t, tick(0))
		runs(t, a, task(0))
		if !slices.Equal(a.Expired, []int{0}) || len(p.m.Look().Rings[2]) != 1 {
			t.Errorf("tick: %+v, %+v", a, p.m.Look())
		}
		a = p.step(t, call(x[1]))
		if x[0] != api.SvDisableAllInterrupts {
			runs(t, a, task(0))
			a = p.step(t, call(x[1]))
		}
		runs(t, a, task(2))
		p.stands(t)
	}
}

// M7: a task that leaves to wait, and whose event is set meanwhile, is ready at once, behind the others of its ring.
func TestWaitThatIsOver(t *testing.T) {
	c := with(api.Os{PostTask: true})
	c.Tasks[4].Priority = 3
	p := up(t, c, 0)
	p.steps(t, call(api.SvActivateTask, 1), call(api.SvTerminateTask), ret()) // 1 runs
	p.steps(t, call(api.SvActivateTask, 4), call(api.SvSetRelAlarm, 1, 1, 0))
	runs(t, p.step(t, call(api.SvWaitEvent, 2)), post(1), post(1))
	if l := p.m.Look(); l.Tasks[1].Waits != 2 || l.Tasks[1].State != api.Running {
		t.Errorf("Look: %+v", l)
	}
	runs(t, p.step(t, tick(0)), post(1))
	runs(t, p.step(t, ret()), task(4))
	if l := p.m.Look(); l.Tasks[1].State != api.Ready || l.Tasks[1].Waits != 0 || !slices.Equal(l.Rings[0], []int{1}) {
		t.Errorf("Look: %+v", l)
	}
	p.stands(t)
}
