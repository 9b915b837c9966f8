package com_test

import (
	"reflect"
	"testing"

	"tappet/api"
	"tappet/com"
	"tappet/image"
	"tappet/table"
)

// P24.1, Words: at first an unqueued one has its Init, queues are empty, nothing is lost, no flag is set; the kernel is off.
func TestFirst(t *testing.T) {
	x := ordinary()
	want := make([]api.MessageLook, len(x.Messages))
	want[0].Value, want[3].Value, want[8].Value, want[11].Value = 65535, 7, 4294967295, 4294967295
	for _, n := range []*com.Node{made(t, x), booted(t, x)} {
		alike(t, "Messages", n.Messages(), want)
		(&pair{n, newDiary(x)}).stands(t)
		if l := n.Look(); l.Phase != api.Off || len(l.Tasks) != 3 {
			t.Errorf("Look: %+v", l)
		}
	}
	n := made(t, with())
	if l := n.Messages(); len(l) != 0 {
		t.Error("messages:", l)
	}
	for service := 40; service <= 45; service++ {
		n.Reset()
		n.Step(start(0))
		is(t, n.Step(call(service)), api.EComID)
	}
}

// P24.1: tables in which one thing is not so are refused.
func TestNewRefuses(t *testing.T) {
	for what, turn := range map[string]func(x *api.Tables){
		"nothing":                      func(x *api.Tables) { *x = api.Tables{} },
		"no task":                      func(x *api.Tables) { *x = api.Tables{Modes: 1, Frames: 4, Errors: 2} },
		"nine modes":                   func(x *api.Tables) { x.Modes = 9 },
		"a ring's capacity":            func(x *api.Tables) { x.Rings[0].Capacity++ },
		"a kind of message":            func(x *api.Tables) { x.Messages[1].Kind = 4 },
		"a length":                     func(x *api.Tables) { x.Messages[1].Length = 3 },
		"a length of a received one":   func(x *api.Tables) { x.Messages[3].Length = 2 },
		"an action of a sent one":      func(x *api.Tables) { x.Messages[1].Action = flags() },
		"a sent one of another":        func(x *api.Tables) { x.Messages[2].From = 1 },
		"from a received one":          func(x *api.Tables) { x.Messages[3].From = 4 },
		"from none":                    func(x *api.Tables) { x.Messages[3].From = 14 },
		"from below":                   func(x *api.Tables) { x.Messages[3].From = -1 },
		"a queue of an unqueued one":   func(x *api.Tables) { x.Messages[3].Queue = 1 },
		"a queue of no room":           func(x *api.Tables) { x.Messages[4].Queue = 0 },
		"a queue that is too long":     func(x *api.Tables) { x.Messages[4].Queue = 17 },
		"an Init of a queued one":      func(x *api.Tables) { x.Messages[4].Init = 1 },
		"an Init that is too long":     func(x *api.Tables) { x.Messages[3].Init = 65536 },
		"an Init above all":            func(x *api.Tables) { x.Messages[11].Init = 1 << 32 },
		"an action's kind":             func(x *api.Tables) { x.Messages[3].Action.Kind = 5 },
		"a flag of a task":             func(x *api.Tables) { x.Messages[3].Action.Task = 1 },
		"a task that is not":           func(x *api.Tables) { x.Messages[5].Action.Task = 3 },
		"events that the task has not": func(x *api.Tables) { x.Messages[8].Action.Mask = 4 },
		"errors":                       func(x *api.Tables) { x.Errors-- },
		"callbacks":                    func(x *api.Tables) { x.Callbacks++ },
		"too many messages": func(x *api.Tables) {
			for len(x.Messages) <= api.MaxMessages {
				x.Messages = append(x.Messages, sent(1))
			}
		},
	} {
		x := ordinary()
		turn(&x)
		if table.Check(x) == api.OK {
			t.Errorf("%q: Check takes it", what)
		}
		if n, e := com.New(x); n != nil || e != api.ErrNode {
			t.Errorf("%q: New: %v %d", what, n, e)
		}
	}
}

// P24.1: Boot answers what image.Decode does.
func TestBootRefuses(t *testing.T) {
	b := encoded(t, ordinary())
	for what, bytes := range map[string][]byte{
		"nothing": nil, "three bytes": b[:3], "another one": []byte("an image that is none of these kinds"), "half": b[:len(b)/2],
		"a byte less": b[:len(b)-1], "a byte more": append(append([]byte(nil), b...), 0),
	} {
		_, want := image.Decode(bytes)
		if n, e := com.Boot(bytes); n != nil || e != want || e == api.OK {
			t.Errorf("%q: Boot: %v %d, not %d", what, n, e, want)
		}
	}
	for i := range b {
		turned := append([]byte(nil), b...)
		turned[i] ^= 0x10
		_, want := image.Decode(turned)
		if n, e := com.Boot(turned); n != nil || e != want || e == api.OK {
			t.Fatalf("byte %d: Boot: %v %d, not %d", i, n, e, want)
		}
	}
	if _, e := com.Boot(b[:3]); e != api.ErrImage {
		t.Error("three bytes:", e)
	}
}

// P24.1: a node that boots from an image is like one of the tables.
func TestBootedIsAlike(t *testing.T) {
	c := chance(4)
	for range 40 {
		x := c.tables()
		p, n := newPair(t, x), booted(t, x)
		for range 100 {
			s := c.step(x, p.n.Look())
			alike(t, told(s), n.Step(s), p.step(t, s))
		}
		p.stands(t)
		(&pair{n, p.d}).stands(t)
	}
}

// R1: nodes that no call made: every step is idle.
func TestNotMade(t *testing.T) {
	for _, n := range []*com.Node{nil, {}, new(com.Node)} {
		script := []api.Step{start(0), start(-1), call(api.SvActivateTask, 0), call(99), ret(), irq(0), tick(0), {}, {Kind: 77}}
		for service := 39; service <= 46; service++ {
			script = append(script, call(service), call(service, 1, 2, 3), call(service, beyond[8]))
		}
		for _, s := range script {
			idles(t, n.Step(s), none)
		}
		answers := n.Run(script)
		if len(answers) != len(script) {
			t.Error("Run:", answers)
		}
		for _, a := range answers {
			idles(t, a, none)
		}
		if l := n.Look(); !reflect.DeepEqual(l, api.Look{}) {
			t.Errorf("Look: %+v", l)
		}
		if m := n.Marks(); !reflect.DeepEqual(m, api.Marks{}) {
			t.Errorf("Marks: %+v", m)
		}
		if l := n.Messages(); len(l) != 0 {
			t.Errorf("Messages: %+v", l)
		}
		if e := n.Reset(); e != api.ErrNil {
			t.Error("Reset:", e)
		}
		if n.Copy() != nil {
			t.Error("a copy of nothing")
		}
		if n != nil && !reflect.DeepEqual(*n, com.Node{}) {
			t.Error("something was changed")
		}
	}
}
