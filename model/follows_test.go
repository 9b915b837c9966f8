package model_test

import (
	"reflect"
	"slices"
	"testing"

	"tappet/api"
	"tappet/ceil"
)

// follows: what the chapter says that follows, of a step that was done, told by the machine's own words.
func (p *pair) follows(t *testing.T, s api.Step, before api.Look, a api.Answer) {
	t.Helper()
	l := plain(p.m.Look())
	if a.Idle && (!reflect.DeepEqual(l, before) || a.Status != api.EOK || len(a.Begun)+len(a.Expired) > 0 || a.V != [3]uint32{}) {
		t.Fatalf("%+v: idle, and something changed: %+v, %+v", s, a, l)
	}
	if a.Run != top(l) {
		t.Fatalf("%+v: Run %+v, and %+v", s, a.Run, l.Frames)
	}
	if s.Kind == api.SCall && a.Status != api.EOK {
		p.refusedChangesNothing(t, before, l, a)
	}
	p.roomsSuffice(t, l)
	p.ceilingsHold(t, l)
	p.alarmsAreDue(t, s, a, l)
	statesFit(t, l)
}

// refusedChangesNothing: P23.7.
func (p *pair) refusedChangesNothing(t *testing.T, before, l api.Look, a api.Answer) {
	t.Helper()
	isError := func(f api.Frame) bool { return f.Kind == api.FError }
	if p.c.OS.Error && !slices.ContainsFunc(before.Frames, isError) {
		if len(a.Begun) != 1 || !isError(a.Begun[0]) || a.Begun[0].Status != a.Status {
			t.Fatalf("refused, and begun are %+v", a)
		}
		before.Frames = append(before.Frames, a.Begun[0])
	} else if len(a.Begun) > 0 {
		t.Fatalf("refused, and begun are %+v", a)
	}
	if !reflect.DeepEqual(l, before) {
		t.Fatalf("refused, and changed: %+v, not %+v", l, before)
	}
}

// rungs are the priorities that tasks have, from the greatest on, and of each the sum of the limits.
func rungs(c api.Config) (priorities, limits []int) {
	for n := api.MaxPriority; n >= 0; n-- {
		sum := 0
		for _, x := range c.Tasks {
			if x.Priority == n {
				sum += x.Activation
			}
		}
		if sum > 0 {
			priorities, limits = append(priorities, n), append(limits, sum)
		}
	}
	return priorities, limits
}

// roomsSuffice: P23.4.
func (p *pair) roomsSuffice(t *testing.T, l api.Look) {
	t.Helper()
	priorities, limits := rungs(p.c)
	if len(l.Rings) != len(priorities) {
		t.Fatalf("%d rings, and %d priorities", len(l.Rings), len(priorities))
	}
	for i, r := range l.Rings {
		if len(r) > limits[i] {
			t.Fatalf("ring %d has %v, and the limits are %d", i, r, limits[i])
		}
		for _, n := range r {
			if p.c.Tasks[n].Priority != priorities[i] {
				t.Fatalf("ring %d has %v", i, r)
			}
		}
	}
	if len(l.Preempted) > len(priorities) || len(l.Frames) > len(p.c.Isrs)+4 {
		t.Fatalf("too many: %+v", l)
	}
	last := -1
	for _, n := range l.Preempted {
		if l.Tasks[n].Priority <= last {
			t.Fatalf("the preempted do not rise: %+v", l)
		}
		last = l.Tasks[n].Priority
	}
	if len(l.Frames) > 0 && l.Frames[0].Kind == api.FTask && l.Tasks[l.Frames[0].ID].Priority <= last {
		t.Fatalf("the running task is not above the preempted: %+v", l)
	}
}

// ceilingsHold: P23.5.
func (p *pair) ceilingsHold(t *testing.T, l api.Look) {
	t.Helper()
	f := top(l)
	priorities, _ := rungs(p.c)
	if f.Kind == api.FTask && p.c.Tasks[f.ID].Full && !l.Shut && l.All+l.Os == 0 {
		for i, r := range l.Rings {
			if len(r) > 0 && priorities[i] > l.Tasks[f.ID].Priority {
				t.Fatalf("ring %d should run: %+v", i, l)
			}
		}
	}
	reckoned, _ := ceil.Reckon(p.c)
	ceilings := append(reckoned.Resources, reckoned.Scheduler)
	var own, others []int
	base := 0
	switch f.Kind {
	case api.FTask:
		own, base = append(slices.Clone(p.c.Tasks[f.ID].Resources), len(p.c.Resources)), p.c.Tasks[f.ID].Priority
	case api.FIsr:
		own, base = p.c.Isrs[f.ID].Resources, p.c.Isrs[f.ID].Priority
	}
	for n, x := range l.Tasks {
		if f != task(n) {
			others = append(others, x.Held...)
		}
	}
	for n, held := range l.Held {
		if f != isr(n) {
			others = append(others, held...)
		}
	}
	for _, r := range own {
		if base <= ceilings[r] && slices.Contains(others, r) {
			t.Fatalf("%+v finds the resource %d held: %+v", f, r, l)
		}
	}
}

// alarmsAreDue: P23.6: what each alarm has left is known beforehand, whatever else is done.
func (p *pair) alarmsAreDue(t *testing.T, s api.Step, a api.Answer, l api.Look) {
	t.Helper()
	var expired []int
	switch {
	case a.Idle || a.Status != api.EOK:
	case s.Kind == api.SStart:
		for n, x := range p.c.Alarms {
			if slices.Contains(x.Auto, s.ID) {
				p.alarms[n] = api.AlarmLook{Set: true, Left: x.Time, Cycle: x.Cycle}
			}
		}
	case s.Kind == api.STick:
		expired = p.ticked(s.ID)
	case s.Kind == api.SCall:
		p.alarmsCalled(s, l)
	}
	if !slices.Equal(a.Expired, expired) || !slices.Equal(l.Alarms, p.alarms) {
		t.Fatalf("%+v: expired %v, not %v; alarms %+v, not %+v", s, a.Expired, expired, l.Alarms, p.alarms)
	}
}

func (p *pair) ticked(counter int) []int {
	var expired []int
	for n := range p.alarms {
		x := &p.alarms[n]
		if p.c.Alarms[n].Counter != counter || !x.Set {
			continue
		}
		if x.Left--; x.Left == 0 {
			expired = append(expired, n)
			*x = api.AlarmLook{Set: x.Cycle > 0, Left: x.Cycle, Cycle: x.Cycle}
		}
	}
	return expired
}

// alarmsCalled is behind a call that was answered EOK.
func (p *pair) alarmsCalled(s api.Step, l api.Look) {
	switch s.Service {
	case api.SvShutdownOS:
		clear(p.alarms)
	case api.SvCancelAlarm:
		p.alarms[s.A] = api.AlarmLook{}
	case api.SvSetRelAlarm:
		p.alarms[s.A] = api.AlarmLook{Set: true, Left: s.B, Cycle: s.C}
	case api.SvSetAbsAlarm:
		counter := p.c.Alarms[s.A].Counter
		size := uint64(p.c.Counters[counter].Max) + 1
		left := (uint64(s.B) + size - uint64(l.Counters[counter])) % size
		if left == 0 {
			left = size
		}
		p.alarms[s.A] = api.AlarmLook{Set: true, Left: uint32(left), Cycle: s.C}
	}
}

// statesFit: each start that was asked and has not ended is in a ring, or its task runs, waits, or is preempted.
func statesFit(t *testing.T, l api.Look) {
	t.Helper()
	for n, x := range l.Tasks {
		started := 0
		for _, r := range l.Rings {
			for _, id := range r {
				if id == n {
					started++
				}
			}
		}
		if slices.Contains(l.Preempted, n) {
			started++
		}
		runs := len(l.Frames) > 0 && l.Frames[0] == task(n)
		if runs || x.State == api.Waiting {
			started++
		}
		if started != x.Active || runs != (x.State == api.Running) || (x.Active == 0) != (x.State == api.Suspended) {
			t.Fatalf("task %d: %+v in %+v", n, x, l)
		}
	}
}
