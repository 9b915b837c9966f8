package model_test

import (
	"testing"

	"tappet/api"
)

// everywhere does every step in every state that steps lead to, behind a start, and tells how many states these are; at most so many. Each step is done to a copy, which must not change what it was copied of.
func everywhere(t *testing.T, c api.Config, steps []api.Step, most int) int {
	t.Helper()
	first := newPair(t, c)
	first.step(t, start(0))
	seen := map[string]int{first.m.Key(): 1}
	work := []*pair{first}
	for len(work) > 0 && len(seen) < most {
		p := work[0]
		work = work[1:]
		for _, s := range steps {
			q := p.copied()
			q.step(t, s)
			q.stands(t)
			if key := q.m.Key(); seen[key] == 0 {
				seen[key] = 1
				work = append(work, q)
			}
		}
		p.stands(t)
	}
	return len(seen)
}

// small is a configuration of which every state can be gone through: a full task that starts by itself, a greater one that is extended, an ISR, an alarm with a callback.
func small(hooks api.Os) api.Config {
	hooks.Name = "o"
	return api.Config{
		CPU:   "c",
		OS:    hooks,
		Modes: []string{"m"},
		Tasks: []api.Task{
			{Name: "a", Priority: 1, Full: true, Activation: 2, Auto: []int{0}, Resources: []int{0}},
			{Name: "b", Priority: 2, Full: true, Activation: 1, Events: []int{0}},
		},
		Resources: []api.Resource{{Name: "r", Kind: api.ResStandard}},
		Events:    []api.Event{{Name: "e", Mask: 1}},
		Counters:  []api.Counter{{Name: "k", Max: 1, Base: 1, Min: 1}},
		Alarms:    []api.Alarm{{Name: "a", Action: api.Action{Kind: api.ActCallback, Name: "f"}}, {Name: "b", Action: api.Action{Kind: api.ActEvent, Task: 1}}},
		Isrs:      []api.Isr{{Name: "i", Category: 2, Priority: 70, Resources: []int{0}}},
	}
}

// P23.2 to P23.7, W1: every step in every state without hooks, and with those of tasks; with the error hook, and with all, the first ones that are reached.
func TestEveryState(t *testing.T) {
	steps := []api.Step{
		ret(), irq(0), tick(0), call(api.SvActivateTask, 0), call(api.SvActivateTask, 1), call(api.SvTerminateTask), call(api.SvWaitEvent, 1), call(api.SvSetEvent, 1, 1),
		call(api.SvGetResource, 0), call(api.SvReleaseResource, 0), call(api.SvSetRelAlarm, 0, 1, 1), call(api.SvSetRelAlarm, 1, 1, 0),
	}
	for _, hooks := range []api.Os{{}, {Error: true}, {PreTask: true, PostTask: true}, {Startup: true, Error: true, Shutdown: true, PreTask: true, PostTask: true}} {
		n := everywhere(t, small(hooks), steps, 4000)
		t.Logf("hooks: %+v, states: %d", hooks, n)
		if n < 500 {
			t.Error("too few states for all that can be:", n)
		}
	}
}

// The same of the first states that are reached, of what shuts interrupts out, and of chains, yielding and an internal resource.
func TestStatesOfTheRest(t *testing.T) {
	c := api.Config{
		CPU:   "c",
		OS:    api.Os{Name: "o", Error: true, PostTask: true},
		Modes: []string{"m"},
		Tasks: []api.Task{
			{Name: "a", Priority: 1, Activation: 1, Auto: []int{0}, Resources: []int{0}},
			{Name: "b", Priority: 2, Full: true, Activation: 1, Resources: []int{0}},
			{Name: "c", Priority: 3, Full: true, Activation: 1},
		},
		Resources: []api.Resource{{Name: "r", Kind: api.ResInternal}},
		Isrs:      []api.Isr{{Name: "i", Category: 1, Priority: 90}, {Name: "j", Category: 2, Priority: 80}, {Name: "k", Category: 2, Priority: 70}},
	}
	steps := []api.Step{
		ret(), irq(0), irq(1), irq(2), call(api.SvActivateTask, 1), call(api.SvActivateTask, 2), call(api.SvChainTask, 0), call(api.SvChainTask, 2), call(api.SvSchedule),
		call(api.SvDisableAllInterrupts), call(api.SvEnableAllInterrupts), call(api.SvSuspendAllInterrupts), call(api.SvResumeAllInterrupts), call(api.SvResumeOSInterrupts),
	}
	t.Log("states:", everywhere(t, c, steps, 2500))
	steps = append(steps[:9], call(api.SvSuspendOSInterrupts), call(api.SvResumeOSInterrupts), call(api.SvTerminateTask), call(api.SvShutdownOS, 3))
	t.Log("states:", everywhere(t, c, steps, 2500))
}

// P23.2 to P23.7, W1, R4: long runs of configurations made by chance, with copies that go their own ways: each step changes one machine alone.
func TestLongRuns(t *testing.T) {
	c := chance(1)
	for n := range 500 {
		x := c.config()
		if n < 60 {
			x = with(c.hooks())
		}
		first := newPair(t, x)
		machines := []*pair{first.copied()}
		for range 250 {
			i := c.below(len(machines))
			switch p := machines[i]; {
			case c.one(60) && len(machines) < 3:
				machines = append(machines, p.copied())
			case p.m.Look().Phase == api.Down && c.one(4):
				machines[i] = first.copied()
			default:
				p.step(t, c.step(x, p.m.Look()))
			}
			for _, q := range machines {
				q.stands(t)
			}
		}
		first.stands(t)
	}
}

// bytes as steps: two of each, of what and of which.
func stepOf(b byte, of byte) api.Step {
	n := int(of)
	switch b % 32 {
	case 0, 27:
		return ret()
	case 28:
		return start(n % 3)
	case 29:
		return irq(n % 4)
	case 30, 31:
		return tick(n % 3)
	}
	return call(int(b%32), uint32(n%8), uint32(n/8%4), uint32(n/32))
}

// P23.2 to P23.7, W1: whatever is done.
func FuzzModel(f *testing.F) {
	f.Add(byte(255), []byte{28, 0, 0, 0, 4, 1, 0, 0, 5, 0})
	f.Add(byte(2), []byte{28, 0, 24, 8, 25, 9, 30, 0, 29, 1, 16, 3, 11, 0, 0, 0})
	f.Add(byte(0), []byte{28, 1, 13, 0, 29, 2, 12, 0, 6, 5, 2, 7, 0, 0})
	f.Fuzz(func(t *testing.T, hooks byte, b []byte) {
		if len(b) > 400 {
			return
		}
		p := newPair(t, with(api.Os{Startup: hooks&1 != 0, Error: hooks&2 != 0, Shutdown: hooks&4 != 0, PreTask: hooks&8 != 0, PostTask: hooks&16 != 0}))
		for i := 0; i+1 < len(b); i += 2 {
			p.step(t, stepOf(b[i], b[i+1]))
			p.stands(t)
		}
	})
}

// P23.2 to P23.7, W1: of configurations by chance, steps by bytes.
func FuzzConfigurations(f *testing.F) {
	f.Add(uint64(1), []byte{28, 0, 0, 0, 4, 1, 0, 0, 5, 0})
	f.Add(uint64(2), []byte{28, 0, 16, 0, 29, 1, 17, 0, 30, 0, 7, 0, 0, 0})
	f.Fuzz(func(t *testing.T, seed uint64, b []byte) {
		if len(b) > 400 {
			return
		}
		c := chance(seed)
		p := newPair(t, c.config())
		for i := 0; i+1 < len(b); i += 2 {
			p.step(t, stepOf(b[i], b[i+1]))
			p.stands(t)
		}
	})
}
