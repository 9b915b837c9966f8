package model_test

import (
	"slices"
	"testing"

	"tappet/api"
)

// M14: of those that are requested the one of greatest priority is taken, if it is above the context on top; requests wait until then.
func TestRequests(t *testing.T) {
	p := at(t, api.LevelPre) // a routine runs: no ISR is taken
	for _, n := range []int{0, 2, 1, 2} {
		a := p.step(t, irq(n))
		is(t, a, api.EOK)
		runs(t, a, pre(0))
	}
	if l := p.m.Look(); !slices.Equal(l.Requested, []int{0, 1, 2}) {
		t.Errorf("Requested: %v", l.Requested)
	}
	for _, n := range []int{2, 1, 0} {
		runs(t, p.step(t, ret()), isr(n))
	}
	runs(t, p.step(t, ret()), task(0))
	if l := p.m.Look(); len(l.Requested) != 0 {
		t.Errorf("Requested: %v", l.Requested)
	}
	p.stands(t)
}

// M14: ISRs above one another; one of less priority, or of the same, waits.
func TestNested(t *testing.T) {
	p := at(t, api.LevelTask)
	runs(t, p.step(t, irq(0)), isr(0))
	runs(t, p.step(t, irq(0)), isr(0)) // not above itself
	runs(t, p.step(t, irq(1)), isr(1))
	runs(t, p.step(t, irq(0)), isr(1))
	runs(t, p.step(t, irq(2)), isr(2))
	framesAre(t, p.m, task(3), isr(0), isr(1), isr(2))
	runs(t, p.step(t, ret()), isr(1))
	runs(t, p.step(t, ret()), isr(0))
	runs(t, p.step(t, ret()), isr(0)) // again
	framesAre(t, p.m, task(3), isr(0))
	runs(t, p.step(t, ret()), task(3))
	p.stands(t)
}

// M14: what shuts out which ISRs.
func TestShutOut(t *testing.T) {
	for service, taken := range map[int]bool{api.SvDisableAllInterrupts: false, api.SvSuspendAllInterrupts: false, api.SvSuspendOSInterrupts: true} {
		p := at(t, api.LevelTask)
		p.step(t, call(service))
		runs(t, p.step(t, irq(0)), task(3))
		a := p.step(t, irq(2))
		if !taken {
			runs(t, a, task(3))
			runs(t, p.step(t, call(service-1)), isr(2))
			runs(t, p.step(t, ret()), isr(0))
			continue
		}
		runs(t, a, isr(2))
		runs(t, p.step(t, ret()), task(3))
		runs(t, p.step(t, call(service-1)), isr(0))
		p.stands(t)
	}
}

// M14: a task that an ISR activates runs behind it, and preempts with its hooks.
func TestActivationByAnIsr(t *testing.T) {
	p := at(t, api.LevelIsr2)
	runs(t, p.step(t, call(api.SvActivateTask, 4)), isr(0))
	tells(t, p.step(t, call(api.SvGetTaskID)), 3)
	runs(t, p.step(t, ret()), post(3), post(3))
	framesAre(t, p.m, task(3), post(3))
	runs(t, p.step(t, irq(1)), post(3))
	runs(t, p.step(t, ret()), isr(1)) // ahead of the next task
	framesAre(t, p.m, isr(1))
	tells(t, p.step(t, call(api.SvGetTaskID)), 4294967295)
	runs(t, p.step(t, ret()), pre(4), pre(4))
	p.stands(t)
}

// M14: the current priority of a task can keep an ISR out.
func TestIsrBelowACeiling(t *testing.T) {
	p := at(t, api.LevelTask)
	p.steps(t, call(api.SvTerminateTask), ret(), ret()) // 0 runs
	p.step(t, call(api.SvGetResource, 2))
	runs(t, p.step(t, irq(0)), task(0))
	runs(t, p.step(t, irq(1)), isr(1))
	runs(t, p.step(t, ret()), task(0))
	runs(t, p.step(t, call(api.SvReleaseResource, 2)), isr(0))
	p.stands(t)
}

// M14: errors in an ISR: the routine is above it, and no ISR is taken meanwhile.
func TestErrorInAnIsr(t *testing.T) {
	p := at(t, api.LevelIsr2)
	f := failed(api.ECallLevel, 5, 0)
	runs(t, p.step(t, call(api.SvTerminateTask, 9)), f, f)
	framesAre(t, p.m, task(3), isr(0), f)
	runs(t, p.step(t, irq(2)), f)
	runs(t, p.step(t, ret()), isr(2))
	framesAre(t, p.m, task(3), isr(0), isr(2))
	p.stands(t)
}
