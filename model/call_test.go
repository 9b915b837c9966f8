package model_test

import (
	"math"
	"slices"
	"testing"

	"tappet/api"
	"tappet/level"
)

// at is a pair in which a context of that level runs, with all hooks.
func at(t *testing.T, l api.Level) *pair {
	t.Helper()
	p := newPair(t, ordinary())
	p.step(t, start(0))
	if l == api.LevelStartup {
		return p
	}
	p.steps(t, ret(), ret())
	switch l {
	case api.LevelTask:
	case api.LevelIsr1:
		p.step(t, irq(2))
	case api.LevelIsr2:
		p.step(t, irq(0))
	case api.LevelError:
		p.step(t, call(99))
	case api.LevelPre:
		p.steps(t, call(api.SvTerminateTask), ret())
	case api.LevelPost:
		p.step(t, call(api.SvTerminateTask))
	case api.LevelShutdown:
		p.step(t, call(api.SvShutdownOS))
	case api.LevelCallback:
		p.steps(t, call(api.SvSetRelAlarm, 4, 1, 0), tick(1))
	}
	if got := levelOf(p.c, p.m.Look()); got != l {
		t.Fatalf("at level %d, not %d", got, l)
	}
	return p
}

func levels() []api.Level {
	var l []api.Level
	for n := api.LevelTask; n <= api.LevelCallback; n++ {
		l = append(l, n)
	}
	return l
}

// M2, P23.2: each service at each level: EID of what is none of the machine's, ECallLevel of what the level does not let be called, and of nothing else.
func TestLevels(t *testing.T) {
	for _, l := range levels() {
		for service := -2; service <= 50; service++ {
			p := at(t, l)
			a := p.step(t, call(service, 0, 2, 3))
			p.stands(t)
			switch {
			case service < 1 || service > 26:
				is(t, a, api.EID)
			case !level.May(service, l):
				is(t, a, api.ECallLevel)
			case a.Status == api.EID || a.Status == api.ECallLevel || a.Idle:
				t.Errorf("service %d at level %d: %+v", service, l, a)
			}
			if service == api.SvStartOS {
				is(t, a, api.ECallLevel)
			}
		}
	}
}

// P23.2: numbers of no service: the error has that number, and the parameter 0.
func TestNoSuchService(t *testing.T) {
	for _, n := range append([]int{0, 27, 39, 40, 41, 42, 43, 44, 45, 46, 99}, beyond...) {
		p := at(t, api.LevelTask)
		a := p.step(t, call(n, 5, 6, 7))
		is(t, a, api.EID)
		runs(t, a, failed(api.EID, n, 0), failed(api.EID, n, 0))
		p.stands(t)
	}
}

// M2: with interrupts shut out, in each way, all services but the six are answered EDisabled; EID and ECallLevel come first.
func TestDisabled(t *testing.T) {
	for _, shut := range []int{api.SvDisableAllInterrupts, api.SvSuspendAllInterrupts, api.SvSuspendOSInterrupts} {
		for _, l := range []api.Level{api.LevelTask, api.LevelIsr1, api.LevelIsr2} {
			for service := 0; service <= 40; service++ {
				p := at(t, l)
				is(t, p.step(t, call(shut)), api.EOK)
				want := api.EDisabled
				switch {
				case service < 1 || service > 26:
					want = api.EID
				case !level.May(service, l):
					want = api.ECallLevel
				case service >= 10 && service <= 15:
					want = api.EOK
				}
				is(t, p.step(t, call(service, 99, 99, 99)), want)
				p.stands(t)
			}
		}
	}
	for _, l := range []api.Level{api.LevelError, api.LevelPre, api.LevelPost, api.LevelCallback} {
		p := at(t, l)
		is(t, p.step(t, call(api.SvSuspendAllInterrupts)), api.EOK)
		want := api.EDisabled
		if l == api.LevelCallback {
			want = api.ECallLevel
		}
		is(t, p.step(t, call(api.SvGetTaskState, 99)), want)
		is(t, p.step(t, call(api.SvDisableAllInterrupts)), api.ECallLevel)
		is(t, p.step(t, call(27)), api.EID)
		p.stands(t)
	}
}

// M11: counts from 0 to 255, and shut; all six are answered EOK.
func TestGate(t *testing.T) {
	p := at(t, api.LevelTask)
	for n := 1; n <= 257; n++ {
		tells(t, p.step(t, call(api.SvSuspendAllInterrupts, 1, 2, 3)))
		gateIs(t, p.m, api.Gate{All: min(n, 255)})
	}
	for n := 254; n >= -2; n-- {
		tells(t, p.step(t, call(api.SvResumeAllInterrupts)))
		gateIs(t, p.m, api.Gate{All: max(n, 0)})
	}
	for n := 1; n <= 257; n++ {
		tells(t, p.step(t, call(api.SvSuspendOSInterrupts)))
		gateIs(t, p.m, api.Gate{Os: min(n, 255)})
	}
	for range 2 {
		tells(t, p.step(t, call(api.SvDisableAllInterrupts)))
		gateIs(t, p.m, api.Gate{Shut: true, Os: 255})
	}
	for n := 254; n >= -2; n-- {
		tells(t, p.step(t, call(api.SvResumeOSInterrupts)))
		gateIs(t, p.m, api.Gate{Shut: true, Os: max(n, 0)})
	}
	for range 2 {
		tells(t, p.step(t, call(api.SvEnableAllInterrupts)))
		gateIs(t, p.m, api.Gate{})
	}
	p.stands(t)
}

// P23.2: parameters are numbers without sign: those of nothing are EID, however great; the error has the service and the first of them.
func TestNumbersOfNothing(t *testing.T) {
	for service, count := range map[int]uint32{
		api.SvActivateTask: 6, api.SvChainTask: 6, api.SvGetTaskState: 6, api.SvSetEvent: 6, api.SvGetEvent: 6,
		api.SvGetResource: 5, api.SvReleaseResource: 5,
		api.SvGetAlarmBase: 5, api.SvGetAlarm: 5, api.SvSetRelAlarm: 5, api.SvSetAbsAlarm: 5, api.SvCancelAlarm: 5,
	} {
		for _, n := range []uint32{count, count + 1, 255, 256, 1 << 16, 1<<31 - 1, 1 << 31, math.MaxUint32 - 1, math.MaxUint32} {
			p := at(t, api.LevelTask)
			a := p.step(t, call(service, n, 1, 1))
			is(t, a, api.EID)
			runs(t, a, failed(api.EID, service, n), failed(api.EID, service, n))
			p.stands(t)
		}
		p := at(t, api.LevelTask)
		if a := p.step(t, call(service, count-1, 1, 1)); a.Status == api.EID {
			t.Errorf("service %d of the last one: %+v", service, a)
		}
	}
}

// M2: an error's parameter is 0, where the service has none; what a service has no use for is not looked at.
func TestErrorsParameter(t *testing.T) {
	for service := 1; service <= 26; service++ {
		p := at(t, api.LevelCallback)
		want := failed(api.ECallLevel, service, 0)
		if level.Params(service) > 0 {
			want.Param = 77
		}
		if !level.May(service, api.LevelCallback) {
			runs(t, p.step(t, call(service, 77, 78, 79)), want, want)
		}
	}
	p := at(t, api.LevelTask)
	tells(t, p.step(t, call(api.SvGetTaskID, math.MaxUint32, 1, 1)), 3)
	tells(t, p.step(t, call(api.SvGetTaskState, 3, math.MaxUint32, 1)), 0)
	tells(t, p.step(t, call(api.SvGetAlarm, 0, math.MaxUint32, math.MaxUint32)), 3)
	tells(t, p.step(t, call(api.SvActivateTask, 1, 5, 5)))
}

// M2: while a routine of the error hook is there no error joins, whoever makes it.
func TestErrorsInTheErrorHook(t *testing.T) {
	p := at(t, api.LevelError)
	first := failed(api.EID, 99, 0)
	for _, s := range []api.Step{call(99), call(api.SvActivateTask, 0), call(api.SvGetTaskState, 9), call(api.SvGetAlarm, 1)} {
		a := p.step(t, s)
		if a.Status == api.EOK {
			t.Errorf("%+v: %+v", s, a)
		}
		runs(t, a, first)
	}
	p.stands(t)
	runs(t, p.step(t, ret()), task(3))
}

// M2: without an error hook nothing begins; the error has waited nonetheless.
func TestErrorsWithoutAHook(t *testing.T) {
	p := up(t, bare(), 0)
	a := p.step(t, call(api.SvActivateTask, 99))
	is(t, a, api.EID)
	runs(t, a, task(3))
	p.stands(t)
}

// P23.2, M13: values; of a call that is not answered EOK all are 0.
func TestValues(t *testing.T) {
	p := up(t, bare(), 0) // 3 runs, 0 is ready
	tells(t, p.step(t, call(api.SvGetTaskID)), 3)
	tells(t, p.step(t, call(api.SvGetTaskState, 3)), 0)
	tells(t, p.step(t, call(api.SvGetTaskState, 0)), 2)
	tells(t, p.step(t, call(api.SvGetTaskState, 1)), 3)
	tells(t, p.step(t, call(api.SvGetAlarmBase, 0)), 9, 4, 2)
	tells(t, p.step(t, call(api.SvGetAlarmBase, 4)), 3, 1, 1)
	tells(t, p.step(t, call(api.SvGetAlarm, 2)), 9)
	p.step(t, tick(0))
	tells(t, p.step(t, call(api.SvGetAlarm, 2)), 8)
	if a := p.step(t, call(api.SvGetAlarm, 1)); a.Status != api.ENoFunc || a.V != [3]uint32{} {
		t.Error("GetAlarm:", a)
	}
	p.step(t, call(api.SvActivateTask, 1))
	p.step(t, call(api.SvTerminateTask)) // 1 runs
	tells(t, p.step(t, call(api.SvSetEvent, 1, 6)))
	tells(t, p.step(t, call(api.SvGetEvent, 1)), 6)
	tells(t, p.step(t, call(api.SvClearEvent, 4)))
	tells(t, p.step(t, call(api.SvGetEvent, 1)), 2)
	p.step(t, call(api.SvWaitEvent, 1)) // 0 runs
	tells(t, p.step(t, call(api.SvGetTaskState, 1)), 1)
	tells(t, p.step(t, call(api.SvGetTaskID)), 0)
	for _, s := range []api.Step{call(api.SvGetEvent, 0), call(api.SvGetEvent, 4), call(api.SvGetEvent, 9), call(api.SvGetTaskState, 9), call(api.SvGetAlarmBase, 9), call(api.SvGetAlarm, 9)} {
		if a := p.step(t, s); a.Status == api.EOK || a.V != [3]uint32{} {
			t.Errorf("%+v: %+v", s, a)
		}
	}
	p.stands(t)
}

// M9: the errors of events, in their order.
func TestEvents(t *testing.T) {
	p := up(t, bare(), 0) // 3 runs: a basic one
	is(t, p.step(t, call(api.SvSetEvent, 0, 1)), api.EAccess)
	is(t, p.step(t, call(api.SvSetEvent, 5, 1)), api.EAccess) // suspended, too
	is(t, p.step(t, call(api.SvSetEvent, 1, 1)), api.EState)
	is(t, p.step(t, call(api.SvGetEvent, 0)), api.EAccess)
	is(t, p.step(t, call(api.SvGetEvent, 4)), api.EState)
	is(t, p.step(t, call(api.SvClearEvent, 1)), api.EAccess)
	p.step(t, call(api.SvGetResource, 4))
	is(t, p.step(t, call(api.SvWaitEvent, 1)), api.EAccess) // it holds something, too
	p.steps(t, call(api.SvReleaseResource, 4), call(api.SvActivateTask, 1), call(api.SvTerminateTask))
	p.step(t, call(api.SvGetResource, 0))
	is(t, p.step(t, call(api.SvWaitEvent, 1)), api.EResource)
	p.step(t, call(api.SvReleaseResource, 0))
	p.step(t, call(api.SvSetEvent, 1, 3))
	a := p.step(t, call(api.SvWaitEvent, 1))
	is(t, a, api.EOK)
	runs(t, a, task(1)) // it was set: nothing
	p.step(t, call(api.SvClearEvent, 1))
	runs(t, p.step(t, call(api.SvWaitEvent, 1)), task(0))
	runs(t, p.step(t, call(api.SvSetEvent, 1, 2)), task(0)) // it does not wait for that
	runs(t, p.step(t, call(api.SvSetEvent, 1, 1)), task(1))
	if l := p.m.Look(); l.Tasks[1].Set != 3 || l.Tasks[1].Waits != 0 || !slices.Equal(l.Preempted, []int{0}) {
		t.Errorf("Look: %+v", l)
	}
	p.step(t, call(api.SvTerminateTask))
	runs(t, p.step(t, call(api.SvActivateTask, 1)), task(1))
	tells(t, p.step(t, call(api.SvGetEvent, 1)), 0)
	p.stands(t)
}

// M10: resources of tasks and of ISRs.
func TestResources(t *testing.T) {
	p := up(t, bare(), 0) // 3 runs
	is(t, p.step(t, call(api.SvGetResource, 1)), api.EID)
	is(t, p.step(t, call(api.SvReleaseResource, 1)), api.EID)
	is(t, p.step(t, call(api.SvGetResource, 0)), api.EAccess)
	is(t, p.step(t, call(api.SvReleaseResource, 0)), api.ENoFunc)
	p.step(t, call(api.SvTerminateTask)) // 0 runs
	is(t, p.step(t, call(api.SvGetResource, 2)), api.EOK)
	is(t, p.step(t, call(api.SvGetResource, 2)), api.EAccess)
	is(t, p.step(t, call(api.SvGetResource, 0)), api.EOK)
	is(t, p.step(t, call(api.SvReleaseResource, 2)), api.ENoFunc)
	is(t, p.step(t, call(api.SvTerminateTask)), api.EResource)
	is(t, p.step(t, call(api.SvChainTask, 5)), api.EResource)
	is(t, p.step(t, call(api.SvSchedule)), api.EResource)
	runs(t, p.step(t, irq(0)), task(0)) // the ceiling is 70
	runs(t, p.step(t, irq(1)), isr(1))
	is(t, p.step(t, call(api.SvGetResource, 2)), api.EAccess) // none of its own
	is(t, p.step(t, call(api.SvGetResource, 4)), api.EAccess)
	is(t, p.step(t, call(api.SvGetResource, 3)), api.EOK)
	is(t, p.step(t, call(api.SvReleaseResource, 0)), api.ENoFunc) // the task's
	is(t, p.step(t, call(api.SvReleaseResource, 3)), api.EOK)
	runs(t, p.step(t, ret()), task(0))
	if l := p.m.Look(); !slices.Equal(l.Tasks[0].Held, []int{2, 0}) || l.Tasks[0].Priority != 70 || !slices.Equal(l.Requested, []int{0}) {
		t.Errorf("Look: %+v", l)
	}
	is(t, p.step(t, call(api.SvReleaseResource, 0)), api.EOK)
	a := p.step(t, call(api.SvReleaseResource, 2))
	is(t, a, api.EOK)
	runs(t, a, isr(0))
	is(t, p.step(t, call(api.SvGetResource, 2)), api.EOK)
	is(t, p.step(t, call(api.SvGetResource, 3)), api.EOK)
	runs(t, p.step(t, irq(1)), isr(0)) // its priority is 80 now
	if l := p.m.Look(); !slices.Equal(l.Held[0], []int{2, 3}) {
		t.Errorf("Look: %+v", l)
	}
	runs(t, p.step(t, call(api.SvReleaseResource, 3)), isr(1))
	p.stands(t)
}

// M12: alarms by calls.
func TestAlarms(t *testing.T) {
	p := up(t, bare(), 0)
	is(t, p.step(t, call(api.SvSetRelAlarm, 0, 1, 0)), api.EState)
	is(t, p.step(t, call(api.SvSetRelAlarm, 0, 99, 99)), api.EState)
	for _, x := range [][2]uint32{{0, 0}, {10, 0}, {math.MaxUint32, 0}, {1, 1}, {1, 10}, {1, math.MaxUint32}} {
		is(t, p.step(t, call(api.SvSetRelAlarm, 1, x[0], x[1])), api.EValue)
	}
	for _, x := range [][2]uint32{{10, 0}, {math.MaxUint32, 0}, {0, 1}, {0, 10}} {
		is(t, p.step(t, call(api.SvSetAbsAlarm, 1, x[0], x[1])), api.EValue)
	}
	p.step(t, tick(0))
	is(t, p.step(t, call(api.SvSetAbsAlarm, 1, 1, 2)), api.EOK)
	tells(t, p.step(t, call(api.SvGetAlarm, 1)), 10)
	is(t, p.step(t, call(api.SvCancelAlarm, 1)), api.EOK)
	is(t, p.step(t, call(api.SvCancelAlarm, 1)), api.ENoFunc)
	is(t, p.step(t, call(api.SvSetAbsAlarm, 1, 0, 9)), api.EOK)
	tells(t, p.step(t, call(api.SvGetAlarm, 1)), 9)
	is(t, p.step(t, call(api.SvCancelAlarm, 1)), api.EOK)
	is(t, p.step(t, call(api.SvSetRelAlarm, 1, 9, 2)), api.EOK)
	if l := p.m.Look(); l.Alarms[1] != (api.AlarmLook{Set: true, Left: 9, Cycle: 2}) {
		t.Errorf("Look: %+v", l.Alarms)
	}
	p.stands(t)
}

// M12: the greatest counter that may be: once round is 2^31 ticks.
func TestAlarmsOfTheGreatestCounter(t *testing.T) {
	c := bare()
	c.Counters[1] = api.Counter{Name: "l", Max: api.MaxTick, Base: api.MaxTick, Min: api.MaxTick}
	p := up(t, c, 0)
	tells(t, p.step(t, call(api.SvGetAlarmBase, 4)), api.MaxTick, api.MaxTick, api.MaxTick)
	for _, x := range [][3]uint32{{0, 0, 1 << 31}, {1, api.MaxTick, 1}, {api.MaxTick, 0, api.MaxTick}} {
		is(t, p.step(t, call(api.SvSetAbsAlarm, 4, x[0], x[1])), api.EOK)
		tells(t, p.step(t, call(api.SvGetAlarm, 4)), x[2])
		p.step(t, call(api.SvCancelAlarm, 4))
	}
	is(t, p.step(t, call(api.SvSetAbsAlarm, 4, 1<<31, 0)), api.EValue)
	is(t, p.step(t, call(api.SvSetRelAlarm, 4, 1<<31, 0)), api.EValue)
	is(t, p.step(t, call(api.SvSetRelAlarm, 4, api.MaxTick, api.MaxTick-1)), api.EValue)
	p.step(t, tick(1))
	is(t, p.step(t, call(api.SvSetAbsAlarm, 4, 1, 0)), api.EOK)
	tells(t, p.step(t, call(api.SvGetAlarm, 4)), 1<<31)
	is(t, p.step(t, call(api.SvSetRelAlarm, 3, api.MaxTick, api.MaxTick)), api.EOK)
	p.stands(t)
}
