package com_test

import (
	"slices"
	"testing"

	"tappet/api"
	"tappet/com"
)

// pair is a node and the diary that it must be like.
type pair struct {
	n *com.Node
	d *diary
}

func newPair(t *testing.T, x api.Tables) *pair {
	t.Helper()
	return &pair{made(t, x), newDiary(x)}
}

func (p *pair) copied() *pair { return &pair{p.n.Copy(), p.d.copy()} }

// stands: the node tells of itself what the diary does, and no room was too small.
func (p *pair) stands(t *testing.T) {
	t.Helper()
	alike(t, "Look", p.n.Look(), p.d.k.Look())
	alike(t, "Marks", p.n.Marks(), p.d.k.Marks())
	alike(t, "Messages", p.n.Messages(), p.d.messages())
	hasRoom(t, p.n, p.d.x)
}

// step does a step to both, and answers what both answer.
func (p *pair) step(t *testing.T, s api.Step) api.Answer {
	t.Helper()
	look, messages := p.n.Look(), p.n.Messages()
	a, want := p.n.Step(s), p.d.step(s)
	if told(a) != told(want) {
		t.Fatalf("%+v behind %+v and %+v: %+v, not %+v", s, look, messages, a, want)
	}
	p.follows(t, s, look, messages, a)
	return a
}

// steps does several, and answers what the last answered.
func (p *pair) steps(t *testing.T, l ...api.Step) api.Answer {
	t.Helper()
	var a api.Answer
	for _, s := range l {
		a = p.step(t, s)
	}
	return a
}

func (p *pair) reset(t *testing.T) {
	t.Helper()
	if e := p.n.Reset(); e != api.OK {
		t.Fatal("Reset:", e)
	}
	p.d = newDiary(p.d.x)
}

// follows: W7 of a call of messages, told by the node's own words; a receipt that is answered E_COM_LIMIT is none.
func (p *pair) follows(t *testing.T, s api.Step, look api.Look, messages []api.MessageLook, a api.Answer) {
	t.Helper()
	if a.Idle {
		alike(t, "idle", p.n.Look(), look)
		alike(t, "idle", p.n.Messages(), messages)
	}
	if a.Idle || s.Kind != api.SCall || s.Service < 40 || s.Service > 45 || a.Status == api.EOK {
		return
	}
	if s.Service != api.SvReceiveMessage || a.Status != api.EComLimit {
		alike(t, "refused", p.n.Messages(), messages)
		alike(t, "refused", a.V, [3]uint32{})
	}
	isError := func(f api.Frame) bool { return f.Kind == api.FError }
	if p.d.x.Uses&api.UseError != 0 && !slices.ContainsFunc(look.Frames, isError) {
		f := failed(a.Status, s.Service, s.A)
		alike(t, "begun", a.Begun, []api.Frame{f})
		look.Frames = append(look.Frames, f)
	}
	alike(t, "refused", p.n.Look(), look)
}
