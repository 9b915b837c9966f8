package model_test

import (
	"slices"
	"testing"

	"tappet/api"
)

// M3: the body of a task ends: what it holds is released, interrupts are shut out no more, and it is an error, which waits until the post task hook's routine has begun.
func TestReturnOfATask(t *testing.T) {
	p := at(t, api.LevelTask)
	p.steps(t, call(api.SvGetResource, 4), call(api.SvDisableAllInterrupts), call(api.SvSuspendOSInterrupts), irq(0))
	a := p.step(t, ret())
	is(t, a, api.EMissingEnd)
	missing := failed(api.EMissingEnd, 5, 0)
	runs(t, a, missing, post(3), missing)
	gateIs(t, p.m, api.Gate{})
	if l := p.m.Look(); len(l.Tasks[3].Held) != 0 || l.Tasks[3].State != api.Running || !slices.Equal(l.Requested, []int{0}) {
		t.Errorf("Look: %+v", l)
	}
	tells(t, p.step(t, call(api.SvGetTaskID)), 3)
	a = p.step(t, ret())
	is(t, a, api.EOK)
	runs(t, a, post(3))
	runs(t, p.step(t, ret()), isr(0)) // the leaving is carried out ahead of it
	framesAre(t, p.m, isr(0))
	runs(t, p.step(t, ret()), pre(0), pre(0))
	p.stands(t)
}

// M3: without hooks.
func TestReturnOfATaskWithoutHooks(t *testing.T) {
	p := up(t, bare(), 0)
	p.step(t, call(api.SvActivateTask, 3))
	a := p.step(t, ret())
	is(t, a, api.EMissingEnd)
	runs(t, a, task(3)) // it starts again
	runs(t, p.step(t, ret()), task(0))
	runs(t, p.step(t, ret()), none)
	p.stands(t)
}

// M3: the body of an ISR ends: what it holds is released, interrupts are shut out as when it began; each is an error.
func TestReturnOfAnIsr(t *testing.T) {
	p := at(t, api.LevelIsr2)
	p.steps(t, call(api.SvGetResource, 2), call(api.SvGetResource, 3), call(api.SvSuspendAllInterrupts))
	a := p.step(t, ret())
	is(t, a, api.EOK)
	held, other := failed(api.EResource, 17, 3), failed(api.EDisabled, 0, 0)
	runs(t, a, held, held)
	framesAre(t, p.m, task(3), held)
	gateIs(t, p.m, api.Gate{})
	if l := p.m.Look(); len(l.Held[0]) != 0 {
		t.Errorf("it holds %v", l.Held[0])
	}
	runs(t, p.step(t, ret()), other, other)
	runs(t, p.step(t, ret()), task(3))
	is(t, p.step(t, irq(0)), api.EOK)
	a = p.step(t, ret())
	is(t, a, api.EOK)
	runs(t, a, task(3))
	p.stands(t)
}

// M3: interrupts that were suspended when the ISR began are so behind it, whatever it did.
func TestReturnRestoresTheGate(t *testing.T) {
	for _, does := range [][]int{{}, {api.SvResumeOSInterrupts}, {api.SvSuspendOSInterrupts}, {api.SvDisableAllInterrupts}, {api.SvSuspendAllInterrupts}, {api.SvResumeOSInterrupts, api.SvSuspendOSInterrupts}} {
		p := at(t, api.LevelTask)
		p.step(t, call(api.SvSuspendOSInterrupts))
		runs(t, p.step(t, irq(2)), isr(2))
		for _, service := range does {
			is(t, p.step(t, call(service)), api.EOK)
		}
		a := p.step(t, ret())
		is(t, a, api.EOK)
		if len(does) == 1 {
			runs(t, a, failed(api.EDisabled, 0, 0), failed(api.EDisabled, 0, 0))
		} else {
			runs(t, a, task(3))
		}
		gateIs(t, p.m, api.Gate{Os: 1})
		p.stands(t)
	}
}

// M3: the same of routines, where it is no error.
func TestReturnOfARoutine(t *testing.T) {
	for _, l := range []api.Level{api.LevelError, api.LevelPre, api.LevelPost, api.LevelCallback} {
		p := at(t, l)
		before := p.m.Look().Frames
		p.steps(t, call(api.SvSuspendAllInterrupts), call(api.SvSuspendAllInterrupts), irq(1))
		gateIs(t, p.m, api.Gate{All: 2})
		a := p.step(t, ret())
		is(t, a, api.EOK)
		gateIs(t, p.m, api.Gate{})
		for _, f := range a.Begun {
			if f.Kind == api.FError {
				t.Errorf("level %d: %+v", l, a)
			}
		}
		if n := len(p.m.Look().Frames); l != api.LevelPost && n != len(before) { // the ISR runs in the routine's place
			t.Errorf("level %d: %d frames behind %d", l, n, len(before))
		}
		p.stands(t)
	}
	p := at(t, api.LevelTask)
	p.steps(t, call(api.SvSuspendAllInterrupts), call(99))
	p.steps(t, call(api.SvResumeAllInterrupts), call(api.SvResumeAllInterrupts))
	gateIs(t, p.m, api.Gate{})
	runs(t, p.step(t, ret()), task(3))
	gateIs(t, p.m, api.Gate{All: 1})
	p.stands(t)
}

// M3: where none runs it is idle.
func TestReturnOfNobody(t *testing.T) {
	p := newPair(t, ordinary())
	idles(t, p.step(t, ret()), none)
	p.steps(t, start(0), ret(), ret())
	p.steps(t, call(api.SvShutdownOS), ret())
	idles(t, p.step(t, ret()), none)
}
