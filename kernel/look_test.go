package kernel_test

import (
	"reflect"
	"slices"
	"testing"

	"tappet/api"
)

// busy is a kernel in which all is there: tasks of all states, a preempted one, an ISR that holds something above the running task, an error's routine above a callback's above that, requests, and errors and callbacks that wait.
func busy(t *testing.T) *pair {
	t.Helper()
	p := up(t, with(api.UseError|api.UseShutdown), 0)                                              // 3 runs, 0 is ready
	p.steps(t, call(api.SvActivateTask, 1), call(api.SvTerminateTask), call(api.SvSetEvent, 1, 1)) // 1 runs
	p.steps(t, call(api.SvWaitEvent, 2), call(api.SvGetResource, 0), call(api.SvActivateTask, 0))  // 0 runs
	p.steps(t, call(api.SvActivateTask, 4), call(api.SvActivateTask, 5), call(api.SvSetRelAlarm, 3, 1, 2))
	p.steps(t, call(api.SvSetRelAlarm, 4, 1, 1), call(api.SvGetResource, 4), call(api.SvSuspendOSInterrupts), call(api.SvResumeOSInterrupts))
	p.steps(t, irq(0), call(api.SvGetResource, 2), irq(0), irq(1), call(api.SvGetResource, 3), call(api.SvSuspendOSInterrupts), irq(1))
	p.steps(t, tick(1), call(99), tick(1))
	p.stands(t)
	return p
}

// P22.4: the look of a kernel in which all is there, told by hand.
func TestLook(t *testing.T) {
	want := api.Look{
		Phase: api.Up,
		Tasks: []api.TaskLook{
			{State: api.Ready, Priority: 3, Active: 2, Held: []int{0}},
			{State: api.Waiting, Priority: 3, Active: 1, Set: 1, Waits: 2},
			{State: api.Suspended, Priority: 2},
			{State: api.Suspended, Priority: 2},
			{State: api.Running, Priority: 5, Active: 1, Held: []int{4}},
			{State: api.Ready, Priority: 1, Active: 2},
		},
		Frames:    []api.Frame{task(4), isr(0), isr(1), callback(4), failed(api.EID, 99, 0)},
		Requested: []int{0, 1},
		Held:      [][]int{{2}, {3}, nil},
		Os:        1,
		Counters:  []uint32{0, 2},
		Alarms:    []api.AlarmLook{{Set: true, Left: 3, Cycle: 3}, {}, {Set: true, Left: 9}, {Set: true, Left: 1, Cycle: 2}, {Set: true, Left: 1, Cycle: 1}},
		Rings:     [][]int{nil, nil, nil, {0, 5, 5}},
		Preempted: []int{0},
	}
	p := busy(t)
	if l := plain(p.k.Look()); !reflect.DeepEqual(l, plain(want)) {
		t.Errorf("Look: %+v, not %+v", l, want)
	}
}

// P22.5: marks told by hand: they stay, when all has gone; an ISR's return, a callback and an error count.
func TestMarks(t *testing.T) {
	p := busy(t)
	want := api.Marks{Rings: []int{1, 1, 1, 3}, Preempted: 1, Frames: 5, Errors: 1, Callbacks: 1}
	if m := p.k.Marks(); !reflect.DeepEqual(m, want) {
		t.Errorf("Marks: %+v, not %+v", m, want)
	}
	p.step(t, call(api.SvShutdownOS))
	if m := p.k.Marks(); !reflect.DeepEqual(m, want) {
		t.Errorf("Marks behind ShutdownOS: %+v, not %+v", m, want)
	}
	p.stands(t)
	q := p.copied()
	p.reset(t)
	if m := p.k.Marks(); !reflect.DeepEqual(m, api.Marks{Rings: []int{0, 0, 0, 0}}) {
		t.Errorf("Marks behind Reset: %+v", m)
	}
	p.step(t, start(1))
	if m := p.k.Marks(); !reflect.DeepEqual(m, api.Marks{Rings: []int{0, 0, 1, 1}, Frames: 1}) {
		t.Errorf("Marks behind a start: %+v", m)
	}
	if m := q.k.Marks(); !reflect.DeepEqual(m, want) {
		t.Errorf("Marks of a copy: %+v", m)
	}
	q.reset(t)
	q.stands(t)
}

// P22.5: idle steps, and steps that are refused, are no marks; a number that joins a ring and is taken off in the same step is one.
func TestMarksOfAStep(t *testing.T) {
	p := newPair(t, bare())
	p.steps(t, call(api.SvActivateTask, 0), irq(0), start(9))
	if m := p.k.Marks(); !reflect.DeepEqual(m, api.Marks{Rings: []int{0, 0, 0, 0}}) {
		t.Errorf("Marks: %+v", m)
	}
	p.step(t, start(0))
	p.step(t, call(api.SvActivateTask, 4))
	if l, m := p.k.Look(), p.k.Marks(); len(l.Rings[0]) != 0 || !slices.Equal(m.Rings, []int{1, 0, 1, 1}) || m.Preempted != 1 || m.Frames != 1 {
		t.Errorf("Marks: %+v, Look: %+v", m, l)
	}
	p.step(t, call(api.SvTerminateTask)) // 3 is resumed
	if m := p.k.Marks(); m.Preempted != 1 || m.Frames != 1 {
		t.Errorf("Marks: %+v", m)
	}
}

// W3: a ring of the least priority is filled to the last by an ISR, the stack of the preempted by one task of each priority.
func TestRoomsAreFilled(t *testing.T) {
	p := up(t, bare(), 0)
	p.step(t, call(api.SvTerminateTask)) // 0 runs
	p.step(t, irq(0))
	for _, n := range []uint32{5, 5, 0} {
		is(t, p.step(t, call(api.SvActivateTask, n)), api.EOK)
	}
	if m := p.k.Marks(); m.Rings[3] != 3 {
		t.Errorf("Marks: %+v", m)
	}
	q := up(t, bare(), 0)
	q.steps(t, call(api.SvTerminateTask), call(api.SvTerminateTask), irq(0))
	for _, n := range []uint32{5, 5, 0, 0} {
		is(t, q.step(t, call(api.SvActivateTask, n)), api.EOK)
	}
	if m := q.k.Marks(); m.Rings[3] != 4 || bare().Rings[3].Capacity != 4 {
		t.Errorf("Marks: %+v", m)
	}
	x := api.Tables{}
	for n := range api.MaxPriority + 1 {
		x.Tasks = append(x.Tasks, api.TaskRow{Priority: n, Full: true, Internal: -1})
	}
	x.Tasks[0].Auto = 1
	r := up(t, fitted(x), 0)
	for n := 1; n <= api.MaxPriority; n++ {
		runs(t, r.step(t, call(api.SvActivateTask, uint32(n))), task(n))
	}
	if m := r.k.Marks(); m.Preempted != 63 || m.Frames != 1 {
		t.Errorf("Marks: %+v", m)
	}
	for n := api.MaxPriority - 1; n >= 0; n-- {
		runs(t, r.step(t, call(api.SvTerminateTask)), task(n))
	}
	r.stands(t)
}

// P22.7: four frames beside the ISRs: the task, a hook, a callback and an error.
func TestFourFrames(t *testing.T) {
	p := at(t, api.LevelTask)
	p.steps(t, call(api.SvSetRelAlarm, 4, 1, 0), call(api.SvTerminateTask), tick(1), call(99))
	framesAre(t, p.k, task(3), post(3), callback(4), failed(api.EID, 99, 0))
	if m := p.k.Marks(); m.Frames != 4 {
		t.Errorf("Marks: %+v", m)
	}
	p.steps(t, irq(0), irq(1), irq(2), ret(), ret(), ret())
	p.stands(t)
	x := ordinary()
	x.Isrs = nil
	x.Resources[2].Ceiling, x.Resources[3].Ceiling = 1, -1
	x = fitted(x)
	q := newPair(t, x)
	q.steps(t, start(0), ret(), ret(), call(api.SvSetRelAlarm, 4, 1, 0), call(api.SvTerminateTask), tick(1), call(99))
	if m := q.k.Marks(); m.Frames != 4 || x.Frames != 4 {
		t.Errorf("Marks: %+v", m)
	}
	q.stands(t)
}

// P22.3: Run answers as the steps do, one behind the other.
func TestRun(t *testing.T) {
	c := chance(11)
	p, k := newPair(t, ordinary()), made(t, ordinary())
	var script []api.Step
	var want []api.Answer
	for range 400 {
		s := c.step(p.b)
		script, want = append(script, s), append(want, p.step(t, s))
	}
	kept := slices.Clone(script)
	got := k.Run(script[:150])
	got = append(got, k.Run(script[150:])...)
	if len(got) != len(want) {
		t.Fatalf("%d answers", len(got))
	}
	for i := range got {
		if a := plainAnswer(got[i]); !reflect.DeepEqual(a, want[i]) {
			t.Fatalf("step %d, %+v: %+v, not %+v", i, script[i], a, want[i])
		}
	}
	stands(t, k, p.b)
	if !slices.Equal(kept, script) {
		t.Error("the script was changed")
	}
	if l := k.Run(nil); len(l) != 0 {
		t.Error("Run of nothing:", l)
	}
	stands(t, k, p.b)
}
