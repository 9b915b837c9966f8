package kernel_test

import (
	"reflect"
	"testing"

	"tappet/api"
	"tappet/kernel"
	"tappet/table"
)

// example is a kernel booted from the image of the examples' configuration.
func example(t *testing.T) *kernel.Kernel {
	t.Helper()
	x, e := table.Make(configuration())
	if e != api.OK {
		t.Fatal("Make:", e)
	}
	return booted(t, x)
}

// Chapter 23's first example, and chapter 22's marks behind its first three steps.
func TestExample1(t *testing.T) {
	k := example(t)
	a := k.Step(start(0))
	is(t, a, api.EOK)
	runs(t, a, task(0))
	a = k.Step(call(api.SvActivateTask, 1))
	is(t, a, api.EOK)
	runs(t, a, task(1))
	if l := k.Look(); l.Tasks[0].State != api.Ready || len(l.Preempted) != 1 || l.Preempted[0] != 0 {
		t.Errorf("low is not preempted: %+v", l)
	}
	a = k.Step(call(api.SvActivateTask, 1))
	is(t, a, api.ELimit)
	runs(t, a, failed(api.ELimit, 4, 1), failed(api.ELimit, 4, 1))
	if m := k.Marks(); !reflect.DeepEqual(m, api.Marks{Rings: []int{1, 1}, Preempted: 1, Frames: 2, Errors: 1}) {
		t.Errorf("Marks: %+v", m)
	}
	runs(t, k.Step(ret()), task(1))
	runs(t, k.Step(call(api.SvTerminateTask)), task(0))
}

// Its second one.
func TestExample2(t *testing.T) {
	k := example(t)
	k.Step(start(0))
	a := k.Step(ret())
	is(t, a, api.EMissingEnd)
	runs(t, a, failed(api.EMissingEnd, 5, 0), failed(api.EMissingEnd, 5, 0))
	runs(t, k.Step(ret()), none)
	for n, look := range k.Look().Tasks {
		if look.State != api.Suspended || look.Active != 0 {
			t.Errorf("task %d: %+v", n, look)
		}
	}
}

// Its third one.
func TestExample3(t *testing.T) {
	k := example(t)
	k.Step(start(0))
	is(t, k.Step(irq(0)), api.EID)
	k.Step(call(api.SvTerminateTask))
	idles(t, k.Step(call(api.SvGetTaskID)), none)
}

// Its fourth one.
func TestExample4(t *testing.T) {
	k := example(t)
	k.Step(start(0))
	a := k.Step(call(99, 5))
	is(t, a, api.EID)
	runs(t, a, failed(api.EID, 99, 0), failed(api.EID, 99, 0))
	k.Step(ret())
	is(t, k.Step(call(api.SvStartOS)), api.ECallLevel)
}

// Its fifth one.
func TestExample5(t *testing.T) {
	k := example(t)
	k.Step(start(0))
	is(t, k.Step(call(api.SvSuspendAllInterrupts)), api.EOK)
	is(t, k.Step(call(api.SvActivateTask, 1)), api.EDisabled)
	runs(t, k.Step(ret()), task(0))
	is(t, k.Step(call(api.SvResumeAllInterrupts)), api.EOK)
	a := k.Step(call(api.SvActivateTask, 1))
	is(t, a, api.EOK)
	runs(t, a, task(1))
}
