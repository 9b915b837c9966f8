package model_test

import (
	"slices"
	"testing"

	"tappet/api"
	"tappet/model"
)

// begun is a machine of the examples' configuration that was started.
func begun(t *testing.T) *model.Model {
	t.Helper()
	m := made(t, example())
	a := m.Step(start(0))
	is(t, a, api.EOK)
	runs(t, a, task(0))
	return m
}

func TestExample1(t *testing.T) {
	m := begun(t)
	a := m.Step(call(api.SvActivateTask, 1))
	is(t, a, api.EOK)
	runs(t, a, task(1))
	if l := m.Look(); l.Tasks[0].State != api.Ready || !slices.Equal(l.Preempted, []int{0}) {
		t.Errorf("low is not preempted: %+v", l)
	}
	a = m.Step(call(api.SvActivateTask, 1))
	is(t, a, api.ELimit)
	runs(t, a, failed(api.ELimit, 4, 1), failed(api.ELimit, 4, 1))
	runs(t, m.Step(ret()), task(1))
	runs(t, m.Step(call(api.SvTerminateTask)), task(0))
}

func TestExample2(t *testing.T) {
	m := begun(t)
	a := m.Step(ret())
	is(t, a, api.EMissingEnd)
	runs(t, a, failed(api.EMissingEnd, 5, 0), failed(api.EMissingEnd, 5, 0))
	runs(t, m.Step(ret()), none)
	for n, look := range m.Look().Tasks {
		if look.State != api.Suspended || look.Active != 0 {
			t.Errorf("task %d: %+v", n, look)
		}
	}
}

func TestExample3(t *testing.T) {
	m := begun(t)
	a := m.Step(irq(0))
	is(t, a, api.EID)
	runs(t, a, task(0))
	m.Step(call(api.SvTerminateTask))
	idles(t, m.Step(call(api.SvGetTaskID)), none)
}

func TestExample4(t *testing.T) {
	m := begun(t)
	a := m.Step(call(99, 5))
	is(t, a, api.EID)
	runs(t, a, failed(api.EID, 99, 0), failed(api.EID, 99, 0))
	m.Step(ret())
	is(t, m.Step(call(api.SvStartOS)), api.ECallLevel)
}

func TestExample5(t *testing.T) {
	m := begun(t)
	is(t, m.Step(call(api.SvSuspendAllInterrupts)), api.EOK)
	is(t, m.Step(call(api.SvActivateTask, 1)), api.EDisabled)
	runs(t, m.Step(ret()), task(0))
	is(t, m.Step(call(api.SvResumeAllInterrupts)), api.EOK)
	a := m.Step(call(api.SvActivateTask, 1))
	is(t, a, api.EOK)
	runs(t, a, task(1))
}
