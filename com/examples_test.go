package com_test

import (
	"testing"

	"tappet/api"
	"tappet/com"
)

// example is a node of the examples' messages, in which a task runs.
func example(t *testing.T) *com.Node {
	t.Helper()
	return up(t, with(sent(2), unqueued(0, 7), queued(0, 2, flags())))
}

func TestExample1(t *testing.T) {
	n := example(t)
	is(t, n.Step(receive(1)), api.EOK, 7)
	is(t, n.Step(send(0, 300)), api.EOK)
	is(t, n.Step(receive(1)), api.EOK, 300)
	is(t, n.Step(readFlag(2)), api.EOK, 1)
	is(t, n.Step(resetFlag(2)), api.EOK)
	is(t, n.Step(readFlag(2)), api.EOK, 0)
}

func TestExample2(t *testing.T) {
	n := example(t)
	for v := range uint64(3) {
		is(t, n.Step(send(0, v+1)), api.EOK)
	}
	is(t, n.Step(getStatus(2)), api.EComLimit)
	is(t, n.Step(receive(2)), api.EComLimit, 1)
	is(t, n.Step(receive(2)), api.EOK, 2)
	is(t, n.Step(receive(2)), api.EComNoMsg)
}

func TestExample3(t *testing.T) {
	n := example(t)
	is(t, n.Step(send(0, 65536)), api.EComLength)
	is(t, n.Step(send(1, 0)), api.EComID)
	is(t, n.Step(readFlag(1)), api.EComID)
}
