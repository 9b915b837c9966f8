package com_test

import (
	"slices"
	"testing"

	"tappet/api"
)

// at is a pair in which a context of that level runs, with all hooks.
func at(t *testing.T, l api.Level) *pair {
	t.Helper()
	p := newPair(t, ordinary())
	a := p.step(t, start(0))
	if l != api.LevelStartup {
		p.steps(t, ret(), ret())
	}
	switch l {
	case api.LevelIsr1:
		a = p.step(t, irq(1))
	case api.LevelIsr2:
		a = p.step(t, irq(0))
	case api.LevelError:
		a = p.step(t, call(99))
	case api.LevelPre:
		a = p.steps(t, call(api.SvActivateTask, 1), ret())
	case api.LevelPost:
		a = p.step(t, call(api.SvTerminateTask))
	case api.LevelShutdown:
		a = p.step(t, call(api.SvShutdownOS))
	case api.LevelCallback:
		a = p.steps(t, call(api.SvSetRelAlarm, 0, 1, 0), tick(0))
	case api.LevelTask:
		a = p.step(t, call(api.SvGetTaskID))
	}
	if got := levelOf(p.d.x, a.Run); got != l {
		t.Fatalf("at level %d, not %d", got, l)
	}
	return p
}

// well are calls of all six services that are answered EOK behind the first, which brings a value of its own and a flag.
func well() []api.Step {
	return []api.Step{send(2, 5), receive(0), getStatus(3), initial(11, 8), readFlag(4), resetFlag(4)}
}

// P24.2: ECallLevel of what the level does not let be called, and of nothing else, for each service at each level; nothing is changed then.
func TestLevels(t *testing.T) {
	for l := api.LevelTask; l <= api.LevelCallback; l++ {
		for i, s := range well() {
			p := at(t, l)
			before := told(p.n.Messages())
			a := p.step(t, s)
			p.stands(t)
			if slices.Contains(where[40+i], l) {
				if a.Status != api.EOK {
					t.Errorf("level %d: %+v: %+v", l, s, a)
				}
				continue
			}
			is(t, a, api.ECallLevel)
			if l != api.LevelError {
				runs(t, a, failed(api.ECallLevel, s.Service, s.A), failed(api.ECallLevel, s.Service, s.A))
			}
			alike(t, "messages", p.n.Messages(), before)
		}
	}
}

// P24.2: EDisabled, if interrupts are shut or suspended, in whichever way; behind ECallLevel, ahead of all else.
func TestDisabled(t *testing.T) {
	for _, shuts := range []int{api.SvDisableAllInterrupts, api.SvSuspendAllInterrupts, api.SvSuspendOSInterrupts} {
		for _, l := range []api.Level{api.LevelTask, api.LevelIsr1, api.LevelIsr2} {
			for i, s := range append(well(), call(40, 99), call(41, 99), call(42, 99), call(43, 99), call(44, 99), call(45, 99)) {
				p := at(t, l)
				p.step(t, call(shuts))
				before := state(p.n)
				a := p.step(t, s)
				want := api.EDisabled
				if !slices.Contains(where[40+i%6], l) {
					want = api.ECallLevel
				}
				is(t, a, want)
				runs(t, a, failed(want, s.Service, s.A), failed(want, s.Service, s.A))
				p.step(t, ret())
				alike(t, "state", state(p.n), before)
				p.stands(t)
			}
		}
	}
}

// P24.2: the six are let be called again when nothing shuts interrupts out any more; a callback that began while they were shut may not.
func TestDisabledEnds(t *testing.T) {
	p := at(t, api.LevelTask)
	p.steps(t, call(api.SvSetRelAlarm, 0, 1, 0), call(api.SvSuspendOSInterrupts))
	runs(t, p.step(t, tick(0)), callback(0), callback(0))
	is(t, p.step(t, send(2, 1)), api.EDisabled)
	p.steps(t, ret(), ret(), call(api.SvResumeOSInterrupts))
	is(t, p.step(t, send(1, 1)), api.EOK)
	p.stands(t)
}

// P24.2, M2: idle, if no context runs: off, nobody, down.
func TestIdle(t *testing.T) {
	calls := append(well(), call(40, 99), call(41, 99), call(42, 99), call(43, 1), call(44, 99), call(45, 0))
	idle := func(p *pair) {
		t.Helper()
		before := state(p.n)
		for _, s := range calls {
			idles(t, p.step(t, s), none)
		}
		alike(t, "state", state(p.n), before)
	}
	p := newPair(t, quiet())
	idle(p)
	p.steps(t, start(0), send(2, 9), ret())
	p.steps(t, ret(), ret()) // the task 0, the task 2, which was activated, and the callback
	if len(p.n.Look().Frames) > 0 {
		t.Fatal("somebody runs:", p.n.Look().Frames)
	}
	idle(p)
	p.steps(t, irq(0), send(2, 11), ret(), call(api.SvShutdownOS))
	idle(p)
	p = at(t, api.LevelShutdown)
	p.step(t, ret())
	idle(p)
}

// P24.2: every other step is the kernel's, whatever else it has: other services, and kinds that are no call.
func TestOtherSteps(t *testing.T) {
	p := at(t, api.LevelTask)
	for _, service := range []int{-1, 0, 27, 39, 46, 1 << 32, 1<<32 + 40} {
		is(t, p.step(t, call(service, 2, 3)), api.EID)
		p.step(t, ret())
	}
	idles(t, p.step(t, api.Step{Kind: 0, Service: 40, A: 2}), task(0))
	idles(t, p.step(t, api.Step{Kind: 6, Service: 40, A: 2}), task(0))
	is(t, p.step(t, api.Step{Kind: api.SIrq, ID: 9, Service: 40, A: 2}), api.EID)
	runs(t, p.step(t, api.Step{Kind: api.STick, Service: 40, A: 2}), task(0))
	alike(t, "messages", p.n.Messages(), made(t, ordinary()).Messages())
	p.stands(t)
	runs(t, p.step(t, api.Step{Kind: api.SReturn, Service: 41, A: 4}), failed(api.EMissingEnd, 5, 0), api.Frame{Kind: api.FPost}, failed(api.EMissingEnd, 5, 0))
	p.stands(t)
}

// P24.2: an error, with the service and its first parameter, begins the routine of the error hook; in that routine it begins none.
func TestErrors(t *testing.T) {
	for _, s := range []api.Step{send(3, 1), receive(2), getStatus(1), initial(7, 1), readFlag(2), resetFlag(5)} {
		p := at(t, api.LevelTask)
		a := p.step(t, s)
		is(t, a, api.EComID)
		runs(t, a, failed(api.EComID, s.Service, s.A), failed(api.EComID, s.Service, s.A))
		p.stands(t)
		a = p.step(t, getStatus(99))
		is(t, a, api.EComID)
		runs(t, a, failed(api.EComID, s.Service, s.A))
		runs(t, p.step(t, ret()), task(0))
		p.stands(t)
	}
	n := up(t, quiet())
	a := n.Step(receive(4))
	is(t, a, api.EComNoMsg)
	runs(t, a, task(0))
}

// P24.2, W7: each error of each service changes nothing, but that its error's routine begins.
func TestRefused(t *testing.T) {
	x := with(sent(1), queued(0, 1, flags()), unqueued(0, 9))
	x.Uses = api.UseError
	n := up(t, x)
	for _, s := range []api.Step{send(1, 0), send(2, 0), receive(0), getStatus(0), initial(0, 0), readFlag(0), readFlag(2), resetFlag(0), resetFlag(2)} {
		refuses(t, n, s, api.EComID)
	}
	for _, id := range append([]uint32{3, 4}, beyond...) {
		for _, s := range []api.Step{send(id, 0), receive(id), getStatus(id), initial(id, 0), readFlag(id), resetFlag(id)} {
			refuses(t, n, s, api.EComID)
		}
	}
	refuses(t, n, send(0, 256), api.EComLength)
	refuses(t, n, initial(2, 256), api.EComLength)
	refuses(t, n, receive(1), api.EComNoMsg)
	refuses(t, n, getStatus(1), api.EComNoMsg)
	n.Step(send(0, 3))
	n.Step(send(0, 4))
	refuses(t, n, getStatus(1), api.EComLimit)
	refuses(t, n, send(0, 1<<63), api.EComLength)
}
