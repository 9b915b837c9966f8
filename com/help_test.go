package com_test

import (
	"fmt"
	"math"
	"slices"
	"testing"

	"tappet/api"
	"tappet/com"
	"tappet/image"
	"tappet/table"
)

// beyond are numbers of nothing, where there are at most 64 messages.
var beyond = []uint32{64, 65, 255, 256, 1 << 16, math.MaxInt32, 1 << 31, math.MaxUint32 - 1, math.MaxUint32}

// fitted gives tables the rings of their tasks, and the room that their rows need; a task without a Limit has 1.
func fitted(x api.Tables) api.Tables {
	x.Modes, x.Rings = max(x.Modes, 1), nil
	for p := api.MaxPriority; p >= 0; p-- {
		ring := api.RingRow{Priority: p}
		for i := range x.Tasks {
			if row := &x.Tasks[i]; row.Priority == p {
				row.Ring, row.Limit, row.Internal = len(x.Rings), max(row.Limit, 1), -1
				ring.Capacity += row.Limit
			}
		}
		if ring.Capacity > 0 {
			x.Rings = append(x.Rings, ring)
		}
	}
	x.Depth, x.Frames, x.Errors, x.Callbacks = len(x.Rings), len(x.Isrs)+4, 2, 0
	alarms, received := make([]int, len(x.Counters)), make([]int, len(x.Messages))
	for _, a := range x.Alarms {
		alarms[a.Counter]++
		x.Errors = max(x.Errors, alarms[a.Counter])
		x.Callbacks += calls(a.Action)
	}
	for _, m := range x.Messages {
		if m.Kind != api.MsgSend {
			received[m.From]++
			x.Errors = max(x.Errors, received[m.From])
			x.Callbacks += calls(m.Action)
		}
	}
	return x
}

func calls(a api.ActionRow) int {
	if a.Kind == api.ActCallback {
		return 1
	}
	return 0
}

// The actions and the messages, by short names.
func activates(n int) api.ActionRow { return api.ActionRow{Kind: api.ActTask, Task: n} }
func sets(n int, mask uint32) api.ActionRow {
	return api.ActionRow{Kind: api.ActEvent, Task: n, Mask: mask}
}
func flags() api.ActionRow     { return api.ActionRow{Kind: api.ActFlag} }
func callsBack() api.ActionRow { return api.ActionRow{Kind: api.ActCallback} }

func sent(length int) api.MessageRow { return api.MessageRow{Kind: api.MsgSend, Length: length} }

// unqueued is one that is received, with an action, or none.
func unqueued(from int, init uint64, a ...api.ActionRow) api.MessageRow {
	m := api.MessageRow{Kind: api.MsgUnqueued, From: from, Init: init}
	if len(a) > 0 {
		m.Action = a[0]
	}
	return m
}

func queued(from, room int, a ...api.ActionRow) api.MessageRow {
	m := unqueued(from, 0, a...)
	m.Kind, m.Queue = api.MsgQueued, room
	return m
}

// ordinary are tables with all that may be, and all hooks. Tasks: 0 (low, starts by itself, twice at most), 1 (extended, above it), 2 (full, between them). ISRs: 0 of category 2, 1 of category 1. Alarms: 0 (a callback), 1 (activates the task 2). Messages: 0 is received of 2, ahead of it; 1 of Length 1, which nobody receives; 2 of Length 2, of 3 to 6, 0, 13; 7 of Length 4, of 8 and 9; 10 of Length 8, of 11 and 12.
func ordinary() api.Tables {
	return fitted(api.Tables{
		Uses:     255,
		Tasks:    []api.TaskRow{{Priority: 1, Full: true, Limit: 2, Own: []int{0, 1}, Auto: 1}, {Priority: 3, Full: true, Mask: 3, Own: []int{1}}, {Priority: 2, Full: true, Own: []int{1}}},
		Counters: []api.CounterRow{{Max: 9, Base: 4, Min: 1}},
		// 0 is shared with the ISR 0; 1 is RES_SCHEDULER.
		Resources: []api.ResourceRow{{Ceiling: 70}, {Ceiling: 3}},
		Alarms:    []api.AlarmRow{{Action: callsBack()}, {Action: activates(2)}},
		Isrs:      []api.IsrRow{{Category: 2, Priority: 70, Own: []int{0}}, {Category: 1, Priority: 90}},
		Messages: []api.MessageRow{
			unqueued(2, 65535),
			sent(1),
			sent(2),
			unqueued(2, 7, flags()),
			queued(2, 2, flags()),
			unqueued(2, 0, activates(2)),
			queued(2, 3, callsBack()),
			sent(4),
			unqueued(7, math.MaxUint32, sets(1, 2)),
			queued(7, 16, callsBack()),
			sent(8),
			unqueued(10, math.MaxUint32),
			queued(10, 1, activates(1)),
			queued(2, 1),
		},
	})
}

// quiet are the same tables without hooks.
func quiet() api.Tables {
	x := ordinary()
	x.Uses = api.UseSchedule
	return x
}

// with are tables of one task that runs from the start, without hooks, with these messages.
func with(messages ...api.MessageRow) api.Tables {
	return fitted(api.Tables{Tasks: []api.TaskRow{{Priority: 1, Full: true, Auto: 1}}, Messages: messages})
}

func made(t *testing.T, x api.Tables) *com.Node {
	t.Helper()
	n, e := com.New(x)
	if e != api.OK || n == nil {
		t.Fatalf("New: %v, %d; Check: %d", n, e, table.Check(x))
	}
	return n
}

// up is a node of these tables that was started, and in which no routine runs.
func up(t *testing.T, x api.Tables) *com.Node {
	t.Helper()
	n := made(t, x)
	a := n.Step(start(0))
	is(t, a, api.EOK)
	for a.Run.Kind > api.FIsr {
		a = n.Step(ret())
	}
	return n
}

func encoded(t *testing.T, x api.Tables) []byte {
	t.Helper()
	b, e := image.Encode(x)
	if e != api.OK {
		t.Fatal("Encode:", e)
	}
	return b
}

func booted(t *testing.T, x api.Tables) *com.Node {
	t.Helper()
	n, e := com.Boot(encoded(t, x))
	if e != api.OK || n == nil {
		t.Fatal("Boot:", n, e)
	}
	return n
}

// The steps, by short names.
func start(mode int) api.Step   { return api.Step{Kind: api.SStart, ID: mode} }
func irq(isr int) api.Step      { return api.Step{Kind: api.SIrq, ID: isr} }
func tick(counter int) api.Step { return api.Step{Kind: api.STick, ID: counter} }
func ret() api.Step             { return api.Step{Kind: api.SReturn} }

// call is a call with up to three parameters.
func call(service int, params ...uint32) api.Step {
	s := api.Step{Kind: api.SCall, Service: service}
	for i, p := range []*uint32{&s.A, &s.B, &s.C} {
		if i < len(params) {
			*p = params[i]
		}
	}
	return s
}

func send(message uint32, value uint64) api.Step {
	return call(api.SvSendMessage, message, uint32(value), uint32(value>>32))
}
func initial(message uint32, value uint64) api.Step {
	return call(api.SvInitMessage, message, uint32(value), uint32(value>>32))
}
func receive(message uint32) api.Step   { return call(api.SvReceiveMessage, message) }
func getStatus(message uint32) api.Step { return call(api.SvGetMessageStatus, message) }
func readFlag(message uint32) api.Step  { return call(api.SvReadFlag, message) }
func resetFlag(message uint32) api.Step { return call(api.SvResetFlag, message) }

// The contexts.
var none api.Frame

func task(id int) api.Frame     { return api.Frame{Kind: api.FTask, ID: id} }
func isr(id int) api.Frame      { return api.Frame{Kind: api.FIsr, ID: id} }
func pre(id int) api.Frame      { return api.Frame{Kind: api.FPre, ID: id} }
func callback(id int) api.Frame { return api.Frame{Kind: api.FCallback, ID: id} }
func failed(s api.Status, service int, param uint32) api.Frame {
	return api.Frame{Kind: api.FError, Status: s, Service: service, Param: param}
}

// runs: behind a step this context runs, and these routines were begun.
func runs(t *testing.T, a api.Answer, run api.Frame, begun ...api.Frame) {
	t.Helper()
	if a.Idle || a.Run != run || !slices.Equal(a.Begun, begun) {
		t.Fatalf("%+v: not %+v with %+v", a, run, begun)
	}
}

// is: a step is answered by this status, with this value, or none.
func is(t *testing.T, a api.Answer, want api.Status, value ...uint64) {
	t.Helper()
	v := [3]uint32{}
	if len(value) > 0 {
		v = [3]uint32{uint32(value[0]), uint32(value[0] >> 32)}
	}
	if a.Idle || a.Status != want || a.V != v || len(a.Expired) > 0 {
		t.Fatalf("%+v: not %d with %v", a, want, v)
	}
}

// gets: a message is received, with these values one behind the other.
func gets(t *testing.T, n *com.Node, message uint32, values ...uint64) {
	t.Helper()
	for _, v := range values {
		is(t, n.Step(receive(message)), api.EOK, v)
	}
}

// idles: a step is idle, and this context runs.
func idles(t *testing.T, a api.Answer, run api.Frame) {
	t.Helper()
	if told(a) != told(api.Answer{Idle: true, Run: run}) {
		t.Fatalf("%+v: not idle, while %+v runs", a, run)
	}
}

// told is all of a thing as text; nil and empty lists are the same.
func told(x any) string { return fmt.Sprintf("%+v", x) }

// alike: two things are told alike.
func alike(t *testing.T, what string, got, want any) {
	t.Helper()
	if told(got) != told(want) {
		t.Fatalf("%s: %+v, not %+v", what, got, want)
	}
}

// state is all that a node tells of itself.
func state(n *com.Node) string { return told(n.Look()) + told(n.Messages()) }

// refuses: a call is answered by this status, and changes nothing but that its error's routine begins, which is ended here.
func refuses(t *testing.T, n *com.Node, s api.Step, want api.Status) {
	t.Helper()
	before := state(n)
	a := n.Step(s)
	is(t, a, want)
	runs(t, a, failed(want, s.Service, s.A), failed(want, s.Service, s.A))
	n.Step(ret())
	if state(n) != before {
		t.Fatalf("%+v: %s, not %s", s, state(n), before)
	}
}

// hasRoom: P24.10.
func hasRoom(t *testing.T, n *com.Node, x api.Tables) {
	t.Helper()
	m := n.Marks()
	for i, r := range x.Rings {
		if m.Rings[i] > r.Capacity {
			t.Fatalf("ring %d had %d, and room for %d", i, m.Rings[i], r.Capacity)
		}
	}
	if m.Preempted > x.Depth || m.Frames > x.Frames || m.Errors > x.Errors || m.Callbacks > x.Callbacks {
		t.Fatalf("Marks: %+v; Depth %d, Frames %d, Errors %d, Callbacks %d", m, x.Depth, x.Frames, x.Errors, x.Callbacks)
	}
}
