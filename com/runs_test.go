package com_test

import (
	"testing"

	"tappet/api"
)

// everywhere does every step in every state that steps lead to, behind a start, and tells how many states these are; at most so many. Each step is done to a copy, which must not change what it was copied of.
func everywhere(t *testing.T, x api.Tables, steps []api.Step, most int) int {
	t.Helper()
	first := newPair(t, x)
	first.step(t, start(0))
	seen := map[string]int{state(first.n): 1}
	work := []*pair{first}
	for len(work) > 0 && len(seen) < most {
		p := work[0]
		work = work[1:]
		for _, s := range steps {
			q := p.copied()
			q.step(t, s)
			q.stands(t)
			if key := state(q.n); seen[key] == 0 {
				seen[key] = 1
				q.d.shorten()
				q.stands(t)
				work = append(work, q)
			}
		}
		p.stands(t)
	}
	return len(seen)
}

// shorten leaves out the first lines of a diary, as long as all messages are told alike without them.
func (d *diary) shorten() {
	want := told(d.messages())
	for len(d.l) > 0 {
		rest := *d
		if rest.l = d.l[1:]; told(rest.messages()) != want {
			return
		}
		d.l = rest.l
	}
}

// P24.2 to P24.8: every step in the states of messages of each kind with each action, in all of them where there are few, and else in the first 400.
func TestEveryState(t *testing.T) {
	for what, messages := range map[string][]api.MessageRow{
		"flags":    {sent(1), unqueued(0, 1, flags()), queued(0, 2, flags())},
		"tasks":    {sent(1), queued(0, 2, activates(1)), sent(1), unqueued(2, 1, activates(1))},
		"routines": {sent(1), queued(0, 1, callsBack()), sent(1), unqueued(2, 0, callsBack()), queued(2, 1)},
		"mixed":    {queued(1, 1, flags()), sent(1), queued(1, 2), unqueued(1, 0, activates(1))},
	} {
		for _, uses := range []int{0, api.UseError} {
			x := fitted(api.Tables{Uses: uses, Tasks: []api.TaskRow{{Priority: 1, Full: true, Auto: 1}, {Priority: 2, Full: true}}, Messages: messages})
			steps := []api.Step{ret(), call(api.SvTerminateTask)}
			for id := range uint32(len(messages)) {
				steps = append(steps, send(id, 0), send(id, 1), receive(id), getStatus(id), initial(id, 1), initial(id, 0), readFlag(id), resetFlag(id))
			}
			n := everywhere(t, x, steps, 400)
			t.Log(what, "hooks:", uses, "states:", n)
			if n < 50 {
				t.Error("too few states for all that can be:", n)
			}
		}
	}
}

// P24.2 to P24.10, R4: long runs off tables made by chance, with copies that go their own ways: each step changes one node alone.
func TestLongRuns(t *testing.T) {
	c := chance(1)
	done := map[int]int{}
	for n := range 400 {
		x := c.tables()
		if n%20 == 0 {
			x = ordinary()
		}
		nodes := []*pair{newPair(t, x)}
		for range 150 {
			p := nodes[c.below(len(nodes))]
			switch {
			case c.one(60) && len(nodes) < 3:
				nodes = append(nodes, p.copied())
			case c.one(120) || p.n.Look().Phase == api.Down && c.one(4):
				p.reset(t)
			default:
				s := c.step(x, p.n.Look())
				if a := p.step(t, s); !a.Idle && s.Kind == api.SCall && s.Service >= 40 && s.Service <= 45 {
					done[int(a.Status)]++
				}
			}
			for _, q := range nodes {
				q.stands(t)
			}
		}
	}
	t.Log("calls of messages by their statuses:", done)
	for _, s := range []api.Status{api.EOK, api.ECallLevel, api.EDisabled, api.EComID, api.EComLength, api.EComLimit, api.EComNoMsg} {
		if done[int(s)] < 100 {
			t.Error("seldom answered:", s, done)
		}
	}
}

// bytes as steps: two of each, of what and of which.
func stepOf(b byte, of byte) api.Step {
	n := int(of)
	switch b % 24 {
	case 0, 1:
		return ret()
	case 2:
		return start(n % 2)
	case 3:
		return irq(n % 3)
	case 4:
		return tick(n % 2)
	case 5:
		return call(n%27, uint32(n/27), 1)
	case 6:
		return initial(uint32(n%16), uint64(n)<<28)
	case 7:
		return send(uint32(n%16), uint64(n)<<10)
	}
	return call(40+int(b%6), uint32(n%16), uint32(n/16))
}

// P24.2 to P24.10: whatever is done.
func FuzzNode(f *testing.F) {
	f.Add(byte(255), []byte{2, 0, 0, 0, 0, 0, 10, 2, 0, 0, 11, 4, 12, 4})
	f.Add(byte(2), []byte{2, 0, 10, 7, 10, 23, 0, 0, 0, 0, 3, 0, 16, 2, 13, 5, 14, 3, 15, 3})
	f.Add(byte(0), []byte{2, 0, 5, 13, 10, 2, 5, 12, 10, 2, 0, 0, 17, 11, 6, 11, 7, 10, 17, 12})
	f.Fuzz(func(t *testing.T, uses byte, b []byte) {
		if len(b) > 200 {
			return
		}
		x := ordinary()
		x.Uses = int(uses)
		if uses&api.UseSchedule == 0 {
			x.Uses += api.UseSchedule
		}
		p := newPair(t, x)
		for i := 0; i+1 < len(b); i += 2 {
			p.step(t, stepOf(b[i], b[i+1]))
			p.stands(t)
		}
	})
}
