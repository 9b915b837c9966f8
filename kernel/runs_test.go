package kernel_test

import (
	"testing"

	"tappet/api"
)

// everywhere does every step in every state that steps lead to, behind a start, and tells how many states these are; at most so many. Each step is done to a copy, which must not change what it was copied of.
func everywhere(t *testing.T, x api.Tables, steps []api.Step, most int) int {
	t.Helper()
	first := newPair(t, x)
	first.step(t, start(0))
	seen := map[string]int{first.b.key(): 1}
	work := []*pair{first}
	for len(work) > 0 && len(seen) < most {
		p := work[0]
		work = work[1:]
		for _, s := range steps {
			q := p.copied()
			q.step(t, s)
			q.stands(t)
			hasRoom(t, q.k, x)
			if key := q.b.key(); seen[key] == 0 {
				seen[key] = 1
				work = append(work, q)
			}
		}
		p.stands(t)
	}
	return len(seen)
}

// small are tables of which every state can be gone through: a full task that starts by itself, a greater one that is extended, an ISR, an alarm with a callback.
func small(uses int) api.Tables {
	return fitted(api.Tables{
		Uses: uses,
		Tasks: []api.TaskRow{
			{Priority: 1, Full: true, Limit: 2, Internal: -1, Own: []int{0}, Auto: 1},
			{Priority: 2, Full: true, Mask: 1, Internal: -1},
		},
		Resources: []api.ResourceRow{{Ceiling: 70}},
		Counters:  []api.CounterRow{{Max: 1, Base: 1, Min: 1}},
		Alarms:    []api.AlarmRow{{Action: api.ActionRow{Kind: api.ActCallback}}, {Action: api.ActionRow{Kind: api.ActEvent, Task: 1, Mask: 1}}},
		Isrs:      []api.IsrRow{{Category: 2, Priority: 70, Own: []int{0}}},
	})
}

// P22.2, P22.5, P22.7: every step in every state without hooks (2248) and with those of tasks (3920); with the error hook, and with all, there are some 30000 and 40000: the first ones that are reached.
func TestEveryState(t *testing.T) {
	steps := []api.Step{
		ret(), irq(0), tick(0), call(api.SvActivateTask, 0), call(api.SvActivateTask, 1), call(api.SvTerminateTask), call(api.SvWaitEvent, 1), call(api.SvSetEvent, 1, 1),
		call(api.SvGetResource, 0), call(api.SvReleaseResource, 0), call(api.SvSetRelAlarm, 0, 1, 1), call(api.SvSetRelAlarm, 1, 1, 0),
	}
	for _, uses := range []int{0, api.UseError, api.UsePre | api.UsePost, 255} {
		n := everywhere(t, small(uses), steps, 4000)
		t.Log("hooks:", uses, "states:", n)
		if n < 500 {
			t.Error("too few states for all that can be:", n)
		}
	}
}

// The same of the first states that are reached, of what shuts interrupts out, and of chains, yielding and an internal resource.
func TestStatesOfTheRest(t *testing.T) {
	x := fitted(api.Tables{
		Uses: api.UseError | api.UsePost,
		Tasks: []api.TaskRow{
			{Priority: 1, Limit: 1, Internal: 2, Auto: 1},
			{Priority: 2, Full: true, Limit: 1, Internal: -1},
			{Priority: 3, Full: true, Limit: 1, Internal: -1},
		},
		Isrs: []api.IsrRow{{Category: 1, Priority: 90}, {Category: 2, Priority: 80}, {Category: 2, Priority: 70}},
	})
	steps := []api.Step{
		ret(), irq(0), irq(1), irq(2), call(api.SvActivateTask, 1), call(api.SvActivateTask, 2), call(api.SvChainTask, 0), call(api.SvChainTask, 2), call(api.SvSchedule),
		call(api.SvDisableAllInterrupts), call(api.SvEnableAllInterrupts), call(api.SvSuspendAllInterrupts), call(api.SvResumeAllInterrupts), call(api.SvResumeOSInterrupts),
	}
	t.Log("states:", everywhere(t, x, steps, 2500))
	steps = append(steps[:9], call(api.SvSuspendOSInterrupts), call(api.SvResumeOSInterrupts), call(api.SvTerminateTask), call(api.SvShutdownOS, 3))
	t.Log("states:", everywhere(t, x, steps, 2500))
}

// P22.2 to P22.7, R4: long runs off tables made by chance, with copies that go their own ways: each step changes one kernel alone.
func TestLongRuns(t *testing.T) {
	c := chance(1)
	for n := range 500 {
		x := c.tables()
		if n < 50 {
			x = with(c.below(256))
		}
		kernels := []*pair{newPair(t, x)}
		for range 250 {
			p := kernels[c.below(len(kernels))]
			switch {
			case c.one(60) && len(kernels) < 3:
				kernels = append(kernels, p.copied())
			case c.one(120) || p.b.phase == api.Down && c.one(4):
				p.reset(t)
			default:
				p.step(t, c.step(p.b))
			}
			for _, q := range kernels {
				q.stands(t)
			}
			hasRoom(t, p.k, x)
		}
	}
}

// P22.8: the same with effects between the steps.
func TestLongRunsWithEffects(t *testing.T) {
	c := chance(2)
	for range 300 {
		x := c.tables()
		p := newPair(t, x)
		for range 200 {
			switch {
			case c.one(5):
				p.effect(t, c.effect(p.b))
			case p.b.phase == api.Down && c.one(4):
				p.reset(t)
			default:
				p.step(t, c.step(p.b))
			}
			p.stands(t)
		}
	}
}

// P22.7: whatever a message of the tables brings, no room is too small.
func TestEffectsOfMessages(t *testing.T) {
	c := chance(3)
	for range 300 {
		x := c.tables()
		p := newPair(t, x)
		for range 200 {
			if level := p.b.level(); c.one(5) && (level == api.LevelTask || level == api.LevelIsr2 || level == api.LevelCallback) {
				p.effect(t, effectOf(&c, x))
			} else {
				p.step(t, c.step(p.b))
			}
			hasRoom(t, p.k, x)
		}
		p.stands(t)
	}
}

// effectOf is what layer 24 brings of a message that is sent: the deeds of all that are received of it.
func effectOf(c *chance, x api.Tables) api.Effect {
	if c.one(4) || len(x.Messages) == 0 {
		return api.Effect{Status: api.EComID, Service: api.SvSendMessage, Param: 9}
	}
	e := api.Effect{Service: api.SvSendMessage}
	for n, m := range x.Messages {
		if m.Kind != api.MsgSend {
			e.Deeds = append(e.Deeds, api.Deed{Action: m.Action, Callback: len(x.Alarms) + n})
		}
	}
	return e
}

// bytes as steps: two of each, of what and of which.
func stepOf(b byte, of byte) api.Step {
	n := int(of)
	switch b % 32 {
	case 0, 27:
		return ret()
	case 28:
		return start(n % 3)
	case 29:
		return irq(n % 4)
	case 30, 31:
		return tick(n % 3)
	}
	return call(int(b%32), uint32(n%8), uint32(n/8%4), uint32(n/32))
}

// P22.2 to P22.7: whatever is done.
func FuzzKernel(f *testing.F) {
	f.Add(byte(255), []byte{28, 0, 0, 0, 4, 1, 0, 0, 5, 0})
	f.Add(byte(2), []byte{28, 0, 24, 8, 25, 9, 30, 0, 29, 1, 16, 3, 11, 0, 0, 0})
	f.Add(byte(0), []byte{28, 1, 13, 0, 29, 2, 12, 0, 6, 5, 2, 7, 0, 0})
	f.Fuzz(func(t *testing.T, uses byte, b []byte) {
		if len(b) > 400 {
			return
		}
		x := with(int(uses))
		p := newPair(t, x)
		for i := 0; i+1 < len(b); i += 2 {
			p.step(t, stepOf(b[i], b[i+1]))
			p.stands(t)
		}
		hasRoom(t, p.k, x)
	})
}
