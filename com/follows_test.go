package com_test

import (
	"math"
	"slices"
	"testing"

	"tappet/api"
	"tappet/com"
	"tappet/kernel"
	"tappet/model"
	"tappet/table"
)

// P24.10: what is received of a queued message, as long as it is never lost nor initialised, is what was sent, all of it, in its order: of all runs of so many sendings and receipts.
func TestAllInItsOrder(t *testing.T) {
	const long = 12
	for room := 1; room <= 4; room++ {
		for run := range 1 << long {
			n := up(t, with(sent(1), queued(0, room)))
			var waits []uint64
			next := uint64(1)
			for i := range long {
				if run>>i&1 == 1 {
					if len(waits) == room {
						break // it would be lost
					}
					is(t, n.Step(send(0, next)), api.EOK)
					waits, next = append(waits, next), next+1
				} else if len(waits) == 0 {
					is(t, n.Step(receive(1)), api.EComNoMsg)
				} else {
					gets(t, n, 1, waits[0])
					waits = waits[1:]
				}
			}
			gets(t, n, 1, waits...)
			is(t, n.Step(receive(1)), api.EComNoMsg)
		}
	}
}

// P24.10: what is received of an unqueued message is what was sent last, or its Init; other senders' values are nothing to it, and nothing is lost by them.
func TestLastOfItsOwn(t *testing.T) {
	c := chance(5)
	for range 50 {
		n := up(t, with(sent(8), unqueued(0, 70000), sent(8), unqueued(2, 80000), queued(2, 1), queued(0, 16)))
		last := []uint64{70000, 80000}
		var all []uint64
		for range 100 {
			k := c.below(2)
			switch v := uint64(c.below(math.MaxInt32)) << c.below(34); {
			case !c.one(3):
				gets(t, n, uint32(2*k+1), last[k])
			case k == 1 || len(all) < 16:
				last[k] = v
				is(t, n.Step(send(uint32(2*k), v)), api.EOK)
				if k == 0 {
					all = append(all, v)
				}
			default:
				gets(t, n, 5, all...)
				all = nil
			}
		}
		is(t, n.Step(getStatus(5)), map[bool]api.Status{true: api.EComNoMsg, false: api.EOK}[len(all) == 0])
	}
}

// P24.10: a run is answered alike with what is done to the messages of other senders, and without that.
func TestNothingToAnother(t *testing.T) {
	c := chance(6)
	groups := [][]uint32{{0, 3, 5}, {1, 2, 4}}
	x := with(sent(1), sent(1), unqueued(1, 3, flags()), unqueued(0, 4, flags()), queued(1, 2, flags()), queued(0, 2, flags()))
	for range 100 {
		both, alone := up(t, x), []*com.Node{up(t, x), up(t, x)}
		for range 60 {
			k := c.below(2)
			s := call(40+c.below(6), groups[k][c.below(3)], uint32(c.below(300)))
			if c.one(3) {
				s.Service, s.A = api.SvSendMessage, groups[k][0]
			}
			alike(t, told(s), both.Step(s), alone[k].Step(s))
		}
		for k, group := range groups {
			for _, id := range group {
				alike(t, "message", both.Messages()[id], alone[k].Messages()[id])
			}
		}
	}
}

// P24.10: a script without the services 40 to 45 is answered as by the kernel.
func TestAsTheKernel(t *testing.T) {
	c := chance(7)
	for range 200 {
		x := c.tables()
		n := made(t, x)
		k, _ := kernel.New(x)
		first := told(n.Messages())
		for range 150 {
			s := c.step(x, n.Look())
			if s.Service >= 40 && s.Service <= 45 {
				s.Service -= 39
			}
			alike(t, told(s), n.Step(s), k.Step(s))
			alike(t, "Look", n.Look(), k.Look())
			alike(t, "Marks", n.Marks(), k.Marks())
		}
		alike(t, "messages", told(n.Messages()), first)
	}
}

// configuration has messages between two tasks, an alarm and an ISR.
func configuration() api.Config {
	action := api.Action{Kind: api.ActTask, Task: 1}
	return api.Config{
		CPU:      "c",
		OS:       api.Os{Name: "o", Error: true, PreTask: true, Schedule: true},
		Modes:    []string{"m"},
		Tasks:    []api.Task{{Name: "low", Priority: 1, Full: true, Activation: 2, Auto: []int{0}, Messages: []int{0, 1}}, {Name: "high", Priority: 4, Full: true, Activation: 1, Messages: []int{2}}},
		Counters: []api.Counter{{Name: "k", Max: 4, Base: 100, Min: 1}},
		Alarms:   []api.Alarm{{Name: "a", Action: action, Auto: []int{0}, Time: 2, Cycle: 3}},
		Isrs:     []api.Isr{{Name: "j", Category: 2, Priority: 64}},
		Messages: []api.Message{
			{Name: "s", Kind: api.MsgSend, Length: 2},
			{Name: "u", Kind: api.MsgUnqueued, Init: 9, Action: api.Action{Kind: api.ActCallback, Name: "f"}},
			{Name: "q", Kind: api.MsgQueued, Queue: 2, Action: action},
		},
	}
}

// W1: off a configuration's image, a script without the services 40 to 45 is answered as by its machine; sending is an activation and a callback.
func TestAsTheMachine(t *testing.T) {
	x, e := table.Make(configuration())
	if e != api.OK {
		t.Fatal("Make:", e)
	}
	c := chance(8)
	for range 30 {
		n := booted(t, x)
		m, _ := model.New(configuration())
		for range 200 {
			s := c.step(x, n.Look())
			if s.Service >= 40 && s.Service <= 45 {
				s.Service -= 39
			}
			alike(t, told(s), n.Step(s), m.Step(s))
			alike(t, "Look", n.Look(), m.Look())
		}
	}
	n := up(t, x)
	runs(t, n.Step(send(0, 7)), callback(1+1), callback(1+1))
	gets(t, n, 1, 7)
	runs(t, n.Step(ret()), pre(1), pre(1))
	n.Step(ret())
	gets(t, n, 2, 7)
}

// P24.10: each message that is sent is, to the kernel, what an alarm's expiring is that does the same.
func TestAsAnAlarm(t *testing.T) {
	c := chance(9)
	for range 200 {
		x := c.tables()
		x.Uses, x.Counters, x.Alarms, x.Messages = x.Uses|api.UseError, []api.CounterRow{{Max: 9, Base: 1, Min: 1}}, nil, []api.MessageRow{sent(1)}
		for range 1 + c.below(6) {
			a := c.action(x, 3)
			x.Alarms = append(x.Alarms, api.AlarmRow{Action: a, Auto: 1, Time: 1})
			x.Messages = append(x.Messages, unqueued(0, 0, a))
		}
		x.Messages = x.Messages[:1+len(x.Alarms)]
		x = fitted(x)
		sends, expires := up(t, x), up(t, x)
		if len(sends.Look().Frames) == 0 {
			continue
		}
		a, b := sends.Step(send(0, 1)), expires.Step(tick(0))
		for range 40 {
			if b.Run.Kind == api.FCallback {
				b.Run.ID += len(x.Alarms) + 1
			}
			for i := range b.Begun {
				if b.Begun[i].Kind == api.FCallback {
					b.Begun[i].ID += len(x.Alarms) + 1
				}
			}
			b.Expired = nil
			alike(t, "answers", a, b)
			a, b = sends.Step(ret()), expires.Step(ret())
		}
		alike(t, "tasks", sends.Look().Tasks, expires.Look().Tasks)
	}
}

// P24.10: whatever is done, the services 40 to 45 alone change what messages are told.
func TestOthersLeaveMessages(t *testing.T) {
	c := chance(10)
	for range 100 {
		x := c.tables()
		n := made(t, x)
		for range 150 {
			s, before := c.step(x, n.Look()), told(n.Messages())
			n.Step(s)
			may := []int{api.SvSendMessage, api.SvReceiveMessage, api.SvInitMessage, api.SvResetFlag}
			if s.Kind != api.SCall || !slices.Contains(may, s.Service) {
				alike(t, told(s), told(n.Messages()), before)
			}
		}
	}
}
