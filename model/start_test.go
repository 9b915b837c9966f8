package model_test

import (
	"math"
	"reflect"
	"slices"
	"testing"

	"tappet/api"
)

// up is a pair that was started in a mode, all hooks of the start and of the first task behind it.
func up(t *testing.T, c api.Config, mode int) *pair {
	t.Helper()
	p := newPair(t, c)
	a := p.step(t, start(mode))
	for isRoutine(a.Run.Kind) {
		a = p.step(t, ret())
	}
	return p
}

// M1: tasks and alarms that start in the mode, the startup hook, and then the best task.
func TestStart(t *testing.T) {
	p := newPair(t, ordinary())
	startup := api.Frame{Kind: api.FStartup}
	a := p.step(t, start(0))
	is(t, a, api.EOK)
	runs(t, a, startup, startup)
	l := p.m.Look()
	if l.Phase != api.Up || l.Mode != 0 || !slices.Equal(l.Rings[2], []int{3}) || !slices.Equal(l.Rings[3], []int{0}) {
		t.Errorf("Look: %+v", l)
	}
	if l.Alarms[0] != (api.AlarmLook{Set: true, Left: 3, Cycle: 3}) || l.Alarms[1].Set || l.Alarms[2] != (api.AlarmLook{Set: true, Left: 9}) || l.Alarms[3].Set {
		t.Errorf("alarms: %+v", l.Alarms)
	}
	idles(t, p.step(t, start(1)), startup)
	tells(t, p.step(t, call(api.SvGetActiveApplicationMode)), 0)
	runs(t, p.step(t, ret()), pre(3), pre(3))
	runs(t, p.step(t, ret()), task(3))
	idles(t, p.step(t, start(0)), task(3))
	idles(t, p.step(t, start(99)), task(3))

	p = newPair(t, bare())
	a = p.step(t, start(1))
	is(t, a, api.EOK)
	runs(t, a, task(3))
	if l := p.m.Look(); l.Mode != 1 || !slices.Equal(l.Rings[3], []int{5}) || l.Alarms[0].Set || !l.Alarms[2].Set {
		t.Errorf("mode 1: %+v", l)
	}
	tells(t, p.step(t, call(api.SvGetActiveApplicationMode)), 1)
}

// M1: there is no such mode: nothing changes, and the machine can be started behind that.
func TestStartInNoMode(t *testing.T) {
	p := newPair(t, ordinary())
	for _, mode := range append([]int{2, 3, 8}, beyond...) {
		a := p.step(t, start(mode))
		is(t, a, api.EID)
		runs(t, a, none)
		p.stands(t)
	}
	if l := p.m.Look(); l.Phase != api.Off {
		t.Error("started:", l)
	}
	is(t, p.step(t, start(1)), api.EOK)
}

// M1: nobody starts: no context runs, and interrupts and ticks come nonetheless.
func TestStartOfNobody(t *testing.T) {
	c := bare()
	for n := range c.Tasks {
		c.Tasks[n].Auto = nil
	}
	p := newPair(t, c)
	runs(t, p.step(t, start(0)), none)
	idles(t, p.step(t, call(api.SvActivateTask, 0)), none)
	idles(t, p.step(t, ret()), none)
	is(t, p.step(t, tick(0)), api.EOK)
	runs(t, p.step(t, irq(0)), isr(0))
	tells(t, p.step(t, call(api.SvGetTaskID)), math.MaxUint32)
	runs(t, p.step(t, call(api.SvActivateTask, 4)), isr(0))
	runs(t, p.step(t, ret()), task(4))
}

// P23.2: steps that are none of the five kinds, in all phases.
func TestStepsOfNoKind(t *testing.T) {
	p := newPair(t, ordinary())
	odd := func(run api.Frame) {
		for _, n := range append([]int{0, 6, 7, 100}, beyond...) {
			idles(t, p.step(t, api.Step{Kind: api.StepKind(n), Service: api.SvShutdownOS}), run)
			p.stands(t)
		}
	}
	odd(none)
	p.steps(t, start(0), ret(), ret())
	odd(task(3))
	p.steps(t, call(api.SvShutdownOS), ret())
	odd(none)
}

// M13: behind ShutdownOS all is gone but the counters and the mode.
func TestShutdown(t *testing.T) {
	p := up(t, ordinary(), 1)
	p.steps(t, tick(0), tick(0), tick(1), call(api.SvGetResource, 4), irq(0), call(api.SvGetResource, 2), call(api.SvGetResource, 3), call(api.SvActivateTask, 1), irq(2), irq(1), ret())
	if l := p.m.Look(); len(l.Held[0]) != 2 || !slices.Equal(l.Requested, []int{1}) || len(l.Rings[1]) != 1 {
		t.Fatalf("not busy: %+v", l)
	}
	down := api.Frame{Kind: api.FShutdown, Status: 4000000000}
	a := p.step(t, call(api.SvShutdownOS, 4000000000))
	is(t, a, api.EOK)
	runs(t, a, down, down)
	l := p.m.Look()
	if l.Phase != api.Down || l.Mode != 1 || !slices.Equal(l.Counters, []uint32{2, 1}) || !slices.Equal(l.Frames, []api.Frame{down}) {
		t.Errorf("Look: %+v", l)
	}
	first := plain(made(t, ordinary()).Look())
	first.Phase, first.Mode, first.Counters, first.Frames = l.Phase, l.Mode, l.Counters, l.Frames
	if !reflect.DeepEqual(plain(l), first) {
		t.Errorf("not all is gone: %+v", l)
	}
	tells(t, p.step(t, call(api.SvGetActiveApplicationMode)), 1)
	for _, s := range []api.Step{irq(0), tick(0), start(0), irq(9), tick(9)} {
		idles(t, p.step(t, s), down)
	}
	runs(t, p.step(t, ret()), none)
	for _, s := range []api.Step{irq(0), tick(0), start(0), ret(), call(api.SvShutdownOS), call(99)} {
		idles(t, p.step(t, s), none)
	}
	p.stands(t)
}

// M13: without a hook; out of each context that may call it; a second time it is not at the level.
func TestShutdownEverywhere(t *testing.T) {
	p := up(t, bare(), 0)
	a := p.step(t, call(api.SvShutdownOS))
	is(t, a, api.EOK)
	runs(t, a, none)
	for _, l := range []api.Level{api.LevelTask, api.LevelIsr2, api.LevelError, api.LevelStartup} {
		p := at(t, l)
		a := p.step(t, call(api.SvShutdownOS, 7))
		is(t, a, api.EOK)
		down := api.Frame{Kind: api.FShutdown, Status: 7}
		runs(t, a, down, down)
		framesAre(t, p.m, down)
		p.stands(t)
		a = p.step(t, call(api.SvShutdownOS, 1))
		is(t, a, api.ECallLevel)
		runs(t, a, failed(api.ECallLevel, 2, 1), failed(api.ECallLevel, 2, 1))
		runs(t, p.step(t, ret()), down)
	}
}

// M13: errors, callbacks and a leaving that wait are gone, too.
func TestShutdownOfWhatWaits(t *testing.T) {
	p := up(t, ordinary(), 0)
	p.steps(t, call(api.SvSetRelAlarm, 4, 1, 1), call(api.SvSetRelAlarm, 3, 1, 1), tick(1), ret(), tick(1), ret(), call(api.SvTerminateTask), tick(1), tick(1))
	limit := failed(api.ELimit, 4, 5)
	framesAre(t, p.m, task(3), post(3), limit)
	q := p.copied()
	runs(t, q.step(t, ret()), callback(4), callback(4))
	runs(t, q.step(t, ret()), post(3))
	runs(t, q.step(t, ret()), pre(0), pre(0))

	down := api.Frame{Kind: api.FShutdown}
	runs(t, p.step(t, call(api.SvShutdownOS)), down, down)
	framesAre(t, p.m, down)
	runs(t, p.step(t, ret()), none)
	p.stands(t)
}
