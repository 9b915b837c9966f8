package com_test

import (
	"testing"

	"tappet/api"
)

// P24.4: of an unqueued one its value, as often as it is received; of a queued one the first, which leaves the queue.
func TestReceive(t *testing.T) {
	n := up(t, with(sent(2), unqueued(0, 9), queued(0, 3)))
	gets(t, n, 1, 9, 9)
	is(t, n.Step(receive(2)), api.EComNoMsg)
	for v := uint64(11); v < 14; v++ {
		is(t, n.Step(send(0, v)), api.EOK)
	}
	gets(t, n, 1, 13, 13)
	gets(t, n, 2, 11)
	is(t, n.Step(send(0, 0)), api.EOK)
	gets(t, n, 2, 12, 13, 0)
	for range 3 {
		is(t, n.Step(receive(2)), api.EComNoMsg)
	}
	gets(t, n, 1, 0)
}

// P24.4: a queue of each length takes so many and no more; it is lost until it is received once, which tells EComLimit and the value; then the rest is told as if nothing had been lost.
func TestLost(t *testing.T) {
	for room := 1; room <= api.MaxQueue; room++ {
		n := up(t, with(sent(1), queued(0, room)))
		for round := range 3 {
			for v := range room {
				is(t, n.Step(send(0, uint64(v))), api.EOK)
				is(t, n.Step(getStatus(1)), api.EOK)
			}
			for range round {
				is(t, n.Step(send(0, 99)), api.EOK)
				is(t, n.Step(getStatus(1)), api.EComLimit)
			}
			status := api.EOK
			if round > 0 {
				status = api.EComLimit
			}
			is(t, n.Step(receive(1)), status, 0)
			for v := 1; v < room; v++ {
				is(t, n.Step(getStatus(1)), api.EOK)
				is(t, n.Step(receive(1)), api.EOK, uint64(v))
			}
			is(t, n.Step(getStatus(1)), api.EComNoMsg)
			is(t, n.Step(receive(1)), api.EComNoMsg)
			alike(t, "messages", n.Messages(), []api.MessageLook{{}, {}})
		}
	}
}

// P24.4: lost again, behind a receipt that found room for one.
func TestLostAgain(t *testing.T) {
	n := up(t, with(sent(1), queued(0, 2)))
	n.Run([]api.Step{send(0, 1), send(0, 2), send(0, 3)})
	is(t, n.Step(receive(1)), api.EComLimit, 1)
	n.Run([]api.Step{send(0, 4)})
	is(t, n.Step(getStatus(1)), api.EOK)
	n.Run([]api.Step{send(0, 5)})
	is(t, n.Step(receive(1)), api.EComLimit, 2)
	gets(t, n, 1, 4)
	is(t, n.Step(receive(1)), api.EComNoMsg)
}

// P24.4: EComLimit is an error like others, with the service and the message; so is EComNoMsg; EComLimit alone has a value.
func TestReceiptsErrors(t *testing.T) {
	x := with(sent(1), queued(0, 1))
	x.Uses = api.UseError
	n := up(t, x)
	a := n.Step(receive(1))
	is(t, a, api.EComNoMsg)
	runs(t, a, failed(api.EComNoMsg, 41, 1), failed(api.EComNoMsg, 41, 1))
	n.Run([]api.Step{ret(), send(0, 7), send(0, 8)})
	a = n.Step(getStatus(1))
	is(t, a, api.EComLimit)
	runs(t, a, failed(api.EComLimit, 42, 1), failed(api.EComLimit, 42, 1))
	a = n.Step(getStatus(1)) // by the routine of the error hook, which may
	is(t, a, api.EComLimit)
	runs(t, a, failed(api.EComLimit, 42, 1))
	n.Step(ret())
	a = n.Step(receive(1))
	is(t, a, api.EComLimit, 7)
	runs(t, a, failed(api.EComLimit, 41, 1), failed(api.EComLimit, 41, 1))
	is(t, n.Step(getStatus(1)), api.EComNoMsg)
	is(t, n.Step(receive(1)), api.ECallLevel)
	runs(t, n.Step(ret()), task(0))
}

// P24.5: it changes nothing; of an unqueued one it is always EOK, and tells no value.
func TestGetMessageStatus(t *testing.T) {
	n := up(t, with(sent(1), unqueued(0, 5), queued(0, 1)))
	asks := func(status api.Status) {
		t.Helper()
		before := state(n)
		for range 3 {
			is(t, n.Step(getStatus(1)), api.EOK)
			is(t, n.Step(getStatus(2)), status)
		}
		alike(t, "state", state(n), before)
	}
	asks(api.EComNoMsg)
	n.Step(send(0, 1))
	asks(api.EOK)
	n.Step(send(0, 2))
	asks(api.EComLimit)
	n.Step(receive(2))
	asks(api.EComNoMsg)
	n.Step(initial(1, 0))
	asks(api.EComNoMsg)
}

// P24.6: an unqueued one has the value; a queued one has none, and is lost no more, whatever the value; flags stay, and nothing comes.
func TestInitMessage(t *testing.T) {
	x := with(sent(1), unqueued(0, 5, flags()), queued(0, 2, flags()), unqueued(0, 0, callsBack()), queued(0, 1, activates(0)))
	n := up(t, x)
	for id := uint32(1); id < 5; id++ {
		is(t, n.Step(initial(id, 255)), api.EOK)
		runs(t, n.Step(getStatus(1)), task(0))
	}
	alike(t, "messages", n.Messages(), []api.MessageLook{{}, {Value: 255}, {}, {Value: 255}, {}})
	n.Run([]api.Step{send(0, 1), ret(), send(0, 2), ret(), send(0, 3), ret()})
	alike(t, "messages", n.Messages(), []api.MessageLook{{}, {Value: 3, Flag: true}, {Queue: []uint64{1, 2}, Lost: true, Flag: true}, {Value: 3}, {Queue: []uint64{1}, Lost: true}})
	is(t, n.Step(initial(2, 1<<63)), api.EOK)
	is(t, n.Step(initial(4, 256)), api.EOK)
	is(t, n.Step(initial(1, 256)), api.EComLength)
	is(t, n.Step(initial(3, 0)), api.EOK)
	alike(t, "messages", n.Messages(), []api.MessageLook{{}, {Value: 3, Flag: true}, {Flag: true}, {}, {}})
	is(t, n.Step(receive(2)), api.EComNoMsg)
	n.Run([]api.Step{send(0, 4), ret()})
	gets(t, n, 2, 4)
	gets(t, n, 4, 4)
}

// P24.6: the length is that of the sent one of which it is received, wherever that stands.
func TestInitsLength(t *testing.T) {
	n := up(t, with(unqueued(3, 0), sent(8), unqueued(1, 0), sent(1), sent(2), unqueued(4, 0)))
	for id, most := range map[uint32]uint64{0: 255, 2: 1<<64 - 1, 5: 65535} {
		is(t, n.Step(initial(id, most)), api.EOK)
		gets(t, n, id, most)
		if most+1 != 0 {
			is(t, n.Step(initial(id, most+1)), api.EComLength)
			is(t, n.Step(initial(id, 1<<32)), api.EComLength)
		}
		gets(t, n, id, most)
	}
}

// P24.7: a flag is set by a coming alone, and stays till it is reset; reading changes nothing; each message has its own.
func TestFlags(t *testing.T) {
	n := up(t, with(sent(1), unqueued(0, 5, flags()), queued(0, 1, flags()), sent(1), unqueued(3, 1, flags())))
	are := func(first, second, third uint64) {
		t.Helper()
		for id, v := range map[uint32]uint64{1: first, 2: second, 4: third} {
			is(t, n.Step(readFlag(id)), api.EOK, v)
			is(t, n.Step(readFlag(id)), api.EOK, v)
			alike(t, "flag", n.Messages()[id].Flag, v == 1)
		}
	}
	are(0, 0, 0)
	is(t, n.Step(resetFlag(1)), api.EOK)
	are(0, 0, 0)
	n.Step(send(0, 1))
	are(1, 1, 0)
	is(t, n.Step(resetFlag(1)), api.EOK)
	is(t, n.Step(resetFlag(2)), api.EOK)
	are(0, 0, 0)
	n.Step(send(0, 2)) // the queue is full
	are(1, 0, 0)
	n.Run([]api.Step{receive(1), receive(2), initial(1, 3), getStatus(1)})
	are(1, 0, 0)
	n.Step(send(3, 2))
	are(1, 0, 1)
	n.Run([]api.Step{initial(4, 3), resetFlag(1), resetFlag(1)})
	are(0, 0, 1)
	n.Step(resetFlag(4))
	are(0, 0, 0)
}

// P24.7: an ISR of category 1 may read and reset flags, and nothing else of messages.
func TestFlagsOfTheFirstCategory(t *testing.T) {
	p := at(t, api.LevelTask)
	p.steps(t, send(2, 1), ret(), ret(), ret()) // the callback, and the hooks by which the task 2 comes to run
	runs(t, p.step(t, irq(1)), isr(1))
	is(t, p.step(t, readFlag(3)), api.EOK, 1)
	is(t, p.step(t, resetFlag(3)), api.EOK)
	is(t, p.step(t, readFlag(3)), api.EOK, 0)
	is(t, p.step(t, readFlag(4)), api.EOK, 1)
	is(t, p.step(t, readFlag(5)), api.EComID)
	p.stands(t)
}
