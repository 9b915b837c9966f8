package model_test

import (
	"slices"
	"testing"

	"tappet/api"
)

// expires: a tick is answered EOK, and these alarms expired.
func expires(t *testing.T, a api.Answer, alarms ...int) {
	t.Helper()
	is(t, a, api.EOK)
	if !slices.Equal(a.Expired, alarms) {
		t.Fatalf("%+v: not %v", a, alarms)
	}
}

// M4: ticks: the value goes round; alarms expire rising, and again by their cycle.
func TestTicks(t *testing.T) {
	p := up(t, bare(), 0)
	p.steps(t, call(api.SvCancelAlarm, 2), call(api.SvSetRelAlarm, 2, 3, 2))
	expires(t, p.step(t, tick(0)))
	expires(t, p.step(t, tick(0)))
	a := p.step(t, tick(0))
	expires(t, a, 0, 2)
	runs(t, a, callback(2), callback(2))
	runs(t, p.step(t, ret()), task(3))
	expires(t, p.step(t, tick(0)))
	expires(t, p.step(t, tick(0)), 2)
	expires(t, p.step(t, tick(0)), 0)
	expires(t, p.step(t, tick(0)), 2)
	for range 3 {
		p.step(t, tick(0))
	}
	for n := range 3 {
		if v := p.m.Look().Counters; v[0] != uint32(n) || v[1] != 0 {
			t.Fatalf("counters behind %d: %v", 10+n, v)
		}
		p.step(t, tick(0))
	}
	p.stands(t)
}

// M4: a counter, an ISR that there is not: EID, and no error; nothing changes.
func TestTicksAndRequestsOfNothing(t *testing.T) {
	p := at(t, api.LevelTask)
	for _, n := range append([]int{2, 3, 5}, beyond...) {
		a := p.step(t, tick(n))
		is(t, a, api.EID)
		runs(t, a, task(3))
		if n != 2 {
			a = p.step(t, irq(n))
			is(t, a, api.EID)
			runs(t, a, task(3))
		}
		p.stands(t)
	}
}

// M4: what an alarm does: an activation too many and an event of a suspended task are errors, in the alarms' order; all that is due is done.
func TestActions(t *testing.T) {
	p := at(t, api.LevelTask) // 3 runs, 0 is ready; the alarm 0 activates 2, 1 sets an event of 1, 2 is a callback
	p.steps(t, call(api.SvActivateTask, 2), call(api.SvCancelAlarm, 0), call(api.SvCancelAlarm, 2))
	p.steps(t, call(api.SvSetRelAlarm, 2, 1, 0), call(api.SvSetRelAlarm, 1, 1, 0), call(api.SvSetRelAlarm, 0, 1, 0))
	a := p.step(t, tick(0))
	expires(t, a, 0, 1, 2)
	limit, state := failed(api.ELimit, 4, 2), failed(api.EState, 18, 1)
	runs(t, a, limit, limit)
	runs(t, p.step(t, ret()), state, state)
	a = p.step(t, ret())
	is(t, a, api.EOK)
	runs(t, a, callback(2), callback(2))
	runs(t, p.step(t, ret()), task(3))
	p.stands(t)
}

// M4: an event that an alarm sets ends a waiting.
func TestEventOfAnAlarm(t *testing.T) {
	p := up(t, bare(), 0)
	p.steps(t, call(api.SvActivateTask, 1), call(api.SvTerminateTask), call(api.SvSetRelAlarm, 1, 2, 0))
	runs(t, p.step(t, call(api.SvWaitEvent, 3)), task(0))
	expires(t, p.step(t, tick(0)))
	a := p.step(t, tick(0))
	expires(t, a, 1)
	runs(t, a, task(1))
	tells(t, p.step(t, call(api.SvGetEvent, 1)), 2)
	p.stands(t)
}

// M4: a callback waits once at most, while one of the same alarm runs; they run one behind the other, in the order of their coming.
func TestCallbacks(t *testing.T) {
	p := at(t, api.LevelTask)
	p.steps(t, call(api.SvSetRelAlarm, 4, 1, 1), call(api.SvCancelAlarm, 2), call(api.SvSetRelAlarm, 2, 2, 2))
	a := p.step(t, tick(1))
	runs(t, a, callback(4), callback(4))
	for range 3 {
		a = p.step(t, tick(1))
		expires(t, a, 4)
		runs(t, a, callback(4))
	}
	p.steps(t, tick(0), tick(0))
	is(t, p.step(t, call(api.SvGetTaskID)), api.ECallLevel) // the error hook's routine is above the callback's
	framesAre(t, p.m, task(3), callback(4), failed(api.ECallLevel, 8, 0))
	runs(t, p.step(t, ret()), callback(4))
	runs(t, p.step(t, ret()), callback(4), callback(4))
	framesAre(t, p.m, task(3), callback(4))
	runs(t, p.step(t, ret()), callback(2), callback(2))
	runs(t, p.step(t, ret()), task(3))
	p.stands(t)
}

// M14: a callback's routine begins above every context but one of an error, or another callback's.
func TestCallbackAbove(t *testing.T) {
	for _, l := range levels() {
		p := newPair(t, ordinary())
		p.step(t, start(1)) // the alarm 2 alone is set
		if l != api.LevelStartup {
			p = at(t, api.LevelTask)
			p.steps(t, call(api.SvCancelAlarm, 0), call(api.SvCancelAlarm, 2))
			p.step(t, call(api.SvSetRelAlarm, 2, 1, 0))
		} else {
			for range 8 {
				p.step(t, tick(0))
			}
		}
		switch l {
		case api.LevelIsr1:
			p.step(t, irq(2))
		case api.LevelIsr2:
			p.step(t, irq(0))
		case api.LevelError:
			p.step(t, call(99))
		case api.LevelPre:
			p.steps(t, call(api.SvTerminateTask), ret())
		case api.LevelPost:
			p.step(t, call(api.SvTerminateTask))
		case api.LevelCallback:
			p.steps(t, call(api.SvSetRelAlarm, 4, 1, 0), tick(1))
		case api.LevelShutdown:
			continue // ticks come no more
		}
		before := p.m.Look().Frames
		a := p.step(t, tick(0))
		if l == api.LevelError || l == api.LevelCallback {
			runs(t, a, before[len(before)-1])
		} else {
			runs(t, a, callback(2), callback(2))
			framesAre(t, p.m, append(before, callback(2))...)
		}
		p.stands(t)
	}
}

// W5: whatever else is done, each tick counts: with interrupts shut out, in ISRs, in routines.
func TestNoTickIsLost(t *testing.T) {
	p := at(t, api.LevelTask)
	p.steps(t, call(api.SvCancelAlarm, 0), call(api.SvCancelAlarm, 2), call(api.SvSetRelAlarm, 2, 7, 0))
	for _, s := range []api.Step{call(api.SvDisableAllInterrupts), call(api.SvActivateTask, 1), ret(), call(api.SvEnableAllInterrupts), irq(2), ret()} {
		p.step(t, s)
		expires(t, p.step(t, tick(0)))
	}
	expires(t, p.step(t, tick(0)), 2)
}
