package com_test

import (
	"math"
	"testing"

	"tappet/api"
)

// P24.3: a value is taken, just if it is below 256 to the power of the Length; a refused one changes nothing.
func TestLengths(t *testing.T) {
	most := map[int]uint64{1: 255, 2: 65535, 4: math.MaxUint32, 8: math.MaxUint64}
	for _, length := range []int{1, 2, 4, 8} {
		x := with(sent(length), unqueued(0, 1, flags()), queued(0, 16, flags()))
		x.Uses = api.UseError
		for _, v := range []uint64{0, 1, 254, 255, 256, 257, 65534, 65535, 65536, 1 << 24, math.MaxUint32 - 1, math.MaxUint32, 1 << 32, 1<<32 + 1, 1 << 40, 1 << 48, 1 << 63, math.MaxUint64} {
			n := up(t, x)
			if v > most[length] {
				refuses(t, n, send(0, v), api.EComLength)
				refuses(t, n, initial(1, v), api.EComLength)
				continue
			}
			is(t, n.Step(send(0, v)), api.EOK)
			alike(t, "messages", n.Messages(), []api.MessageLook{{}, {Value: v, Flag: true}, {Queue: []uint64{v}, Flag: true}})
			gets(t, n, 1, v, v)
			gets(t, n, 2, v)
			is(t, n.Step(initial(1, v/2)), api.EOK)
			gets(t, n, 1, v/2)
		}
	}
}

// P24.2: the lower 32 bits of a value are B, the upper ones C; so they are told.
func TestHalves(t *testing.T) {
	n := up(t, with(sent(8), unqueued(0, 0), queued(0, 2)))
	n.Step(call(api.SvSendMessage, 0, 1, 2))
	alike(t, "messages", n.Messages(), []api.MessageLook{{}, {Value: 1 + 2<<32}, {Queue: []uint64{1 + 2<<32}}})
	for id := range uint32(2) {
		if a := n.Step(receive(1 + id)); a.V != [3]uint32{1, 2, 0} {
			t.Errorf("%+v", a)
		}
	}
	n.Step(call(api.SvInitMessage, 1, 0, math.MaxUint32))
	if a := n.Step(receive(1)); a.V != [3]uint32{0, math.MaxUint32, 0} {
		t.Errorf("%+v", a)
	}
}

// P24.3: each message that is received of it has the value, and none of another.
func TestReceivers(t *testing.T) {
	p := at(t, api.LevelTask)
	first := p.n.Messages()
	is(t, p.step(t, send(1, 200)), api.EOK)
	alike(t, "nobody receives it", p.n.Messages(), first)
	is(t, p.step(t, send(7, 70000)), api.EOK)
	want := first
	want[8].Value, want[9].Queue = 70000, []uint64{70000}
	alike(t, "messages", p.n.Messages(), want)
	p.steps(t, ret(), ret()) // the error that the task 1 is suspended, and the callback
	is(t, p.step(t, send(2, 300)), api.EOK)
	for _, id := range []int{0, 3, 5} {
		want[id].Value = 300
	}
	for _, id := range []int{4, 6, 13} {
		want[id].Queue = []uint64{300}
	}
	want[3].Flag, want[4].Flag = true, true
	alike(t, "messages", p.n.Messages(), want)
	p.stands(t)
}

// P24.3: a message's coming activates a task, sets an event, calls a routine (as number how many alarms there are, and its own), sets a flag or does nothing.
func TestComing(t *testing.T) {
	x := with(sent(1), queued(0, 1))
	n := up(t, x)
	runs(t, n.Step(send(0, 1)), task(0))
	x = with(sent(1), queued(0, 1, flags()))
	n = up(t, x)
	runs(t, n.Step(send(0, 1)), task(0))
	is(t, n.Step(readFlag(1)), api.EOK, 1)

	x = quiet()
	x.Messages = []api.MessageRow{sent(1), unqueued(0, 0, activates(2)), sent(1), queued(2, 1, sets(1, 2)), sent(1), queued(4, 2, callsBack()), sent(1), unqueued(6, 0, activates(1))}
	x = fitted(x)
	n = up(t, x)
	runs(t, n.Step(send(0, 1)), task(2))
	n.Step(call(api.SvTerminateTask))
	runs(t, n.Step(send(6, 1)), task(1))
	runs(t, n.Step(call(api.SvWaitEvent, 3)), task(0))
	runs(t, n.Step(send(2, 1)), task(1))
	if a := n.Step(call(api.SvGetEvent, 1)); a.V[0] != 2 {
		t.Errorf("events: %+v", a)
	}
	runs(t, n.Step(send(4, 1)), callback(2+5), callback(2+5))
	runs(t, n.Step(send(4, 1)), callback(2+5))
	runs(t, n.Step(ret()), callback(2+5), callback(2+5))
	runs(t, n.Step(ret()), task(1))
	x.Alarms = nil
	n = up(t, fitted(x))
	runs(t, n.Step(send(4, 1)), callback(5), callback(5))
}

// P24.3: the deeds are done rising, one behind the other, and their errors begin routines in that order; SendMessage itself is answered EOK.
func TestComingInOrder(t *testing.T) {
	x := quiet()
	x.Uses |= api.UseError
	x.Messages = []api.MessageRow{queued(3, 1, callsBack()), unqueued(3, 0, activates(1)), unqueued(3, 0, sets(1, 1)), sent(2), unqueued(3, 0, activates(2)), unqueued(3, 0, activates(0)), queued(3, 2, callsBack()), unqueued(3, 0, activates(0))}
	n := up(t, fitted(x))
	a := n.Step(send(3, 1))
	is(t, a, api.EOK)
	runs(t, a, failed(api.ELimit, 4, 0), failed(api.ELimit, 4, 0)) // two of the task 0 at most
	runs(t, n.Step(ret()), callback(2+0), callback(2+0))
	runs(t, n.Step(ret()), callback(2+6), callback(2+6))
	runs(t, n.Step(ret()), task(1))
	if a := n.Step(call(api.SvGetEvent, 1)); a.V[0] != 1 {
		t.Errorf("the event ahead of the activation, or lost: %+v", a)
	}
	a = n.Step(send(3, 2)) // the queue of the message 0 is full
	is(t, a, api.EOK)
	runs(t, a, failed(api.ELimit, 4, 1), failed(api.ELimit, 4, 1))
	runs(t, n.Step(ret()), failed(api.ELimit, 4, 2), failed(api.ELimit, 4, 2))
	runs(t, n.Step(ret()), failed(api.ELimit, 4, 0), failed(api.ELimit, 4, 0))
	runs(t, n.Step(ret()), failed(api.ELimit, 4, 0), failed(api.ELimit, 4, 0))
	runs(t, n.Step(ret()), callback(2+6), callback(2+6))
	runs(t, n.Step(ret()), task(1))
	hasRoom(t, n, fitted(x))
}

// P24.3: an event ahead of the activation in the row of messages finds the task suspended.
func TestEventAheadOfActivation(t *testing.T) {
	x := quiet()
	x.Uses |= api.UseError
	x.Messages = []api.MessageRow{sent(1), unqueued(0, 0, sets(1, 1)), unqueued(0, 0, activates(1))}
	n := up(t, fitted(x))
	a := n.Step(send(0, 1))
	is(t, a, api.EOK)
	runs(t, a, failed(api.EState, 18, 1), failed(api.EState, 18, 1))
	runs(t, n.Step(ret()), task(1))
	if a := n.Step(call(api.SvGetEvent, 1)); a.V[0] != 0 {
		t.Errorf("events: %+v", a)
	}
}

// P24.3: of one that does not find room nothing is done but that it is lost; the others have the value all the same.
func TestFull(t *testing.T) {
	for _, act := range []api.ActionRow{{}, activates(2), callsBack(), flags()} {
		x := quiet()
		x.Messages = []api.MessageRow{sent(1), queued(0, 1, act), unqueued(0, 0), queued(0, 2, flags())}
		n := up(t, fitted(x))
		a := n.Step(send(0, 1))
		for a.Run != task(0) {
			a = n.Step(ret())
		}
		n.Step(resetFlag(1))
		n.Step(resetFlag(3))
		a = n.Step(send(0, 2))
		is(t, a, api.EOK)
		runs(t, a, task(0))
		alike(t, "messages", n.Messages(), []api.MessageLook{{}, {Queue: []uint64{1}, Lost: true}, {Value: 2}, {Queue: []uint64{1, 2}, Flag: true}})
		runs(t, n.Step(send(0, 3)), task(0))
		alike(t, "messages", n.Messages(), []api.MessageLook{{}, {Queue: []uint64{1}, Lost: true}, {Value: 3}, {Queue: []uint64{1, 2}, Lost: true, Flag: true}})
	}
}

// P24.3: a message is sent by an ISR and by a callback, too; what comes of it waits until they have ended.
func TestSentByOthers(t *testing.T) {
	p := at(t, api.LevelIsr2)
	a := p.step(t, send(2, 1))
	is(t, a, api.EOK)
	runs(t, a, callback(2+6), callback(2+6))
	runs(t, p.step(t, send(7, 1)), failed(api.EState, 18, 1), failed(api.EState, 18, 1))
	p.step(t, ret())
	runs(t, p.step(t, ret()), callback(2+9), callback(2+9))
	runs(t, p.step(t, ret()), isr(0))
	runs(t, p.step(t, ret()), api.Frame{Kind: api.FPost}, api.Frame{Kind: api.FPost})
	runs(t, p.step(t, ret()), pre(2), pre(2))
	p.stands(t)
}

// P24.3: a message's callback may send the same message: it is called again, behind the one that runs.
func TestCallbackSendsItself(t *testing.T) {
	x := with(sent(1), queued(0, 3, callsBack()))
	n := up(t, x)
	runs(t, n.Step(send(0, 1)), callback(1), callback(1))
	for v := range uint64(3) {
		runs(t, n.Step(send(0, v)), callback(1))
	}
	alike(t, "messages", n.Messages(), []api.MessageLook{{}, {Queue: []uint64{1, 0, 1}, Lost: true}})
	runs(t, n.Step(ret()), callback(1), callback(1))
	runs(t, n.Step(ret()), task(0))
	hasRoom(t, n, x)
}

// P24.10, W3: as many messages as may be, all received of one that is sent: as many errors, or callbacks, as the tables have room for.
func TestAsManyAsMayBe(t *testing.T) {
	for _, act := range []api.ActionRow{activates(0), callsBack()} {
		x := with(sent(8))
		for len(x.Messages) < api.MaxMessages {
			m := unqueued(0, 0, act)
			if len(x.Messages)%2 == 0 {
				m = queued(0, api.MaxQueue, act)
			}
			x.Messages = append(x.Messages, m)
		}
		x.Uses = 127
		x = fitted(x)
		n := up(t, x)
		for v := range uint64(api.MaxQueue + 1) {
			a := n.Step(send(0, math.MaxUint64-v))
			is(t, a, api.EOK)
			for k := 1; k < api.MaxMessages; k++ {
				want := callback(k)
				if act.Kind == api.ActTask {
					want = failed(api.ELimit, 4, 0)
				}
				if v == api.MaxQueue && k%2 == 0 {
					continue // it found no room
				}
				runs(t, a, want, want)
				a = n.Step(ret())
			}
			runs(t, a, task(0))
		}
		m := n.Marks()
		if m.Errors != x.Errors && m.Callbacks != x.Callbacks || x.Errors != 63 {
			t.Errorf("Marks: %+v", m)
		}
		hasRoom(t, n, x)
		alike(t, "lost", n.Messages()[62].Lost, true)
	}
}
