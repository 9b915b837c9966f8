package model_test

import (
	"reflect"
	"testing"

	"tappet/api"
	"tappet/image"
	"tappet/kernel"
	"tappet/model"
	"tappet/table"
)

// pair is a machine, the kernel that boots from its configuration's image, which it must be like (W1), and what follows of its alarms (W5).
type pair struct {
	c      api.Config
	m      *model.Model
	k      *kernel.Kernel
	alarms []api.AlarmLook
}

func booted(t *testing.T, c api.Config) *kernel.Kernel {
	t.Helper()
	x, e := table.Make(c)
	if e != api.OK {
		t.Fatal("Make:", e)
	}
	b, e := image.Encode(x)
	if e != api.OK {
		t.Fatal("Encode:", e)
	}
	k, e := kernel.Boot(b)
	if e != api.OK {
		t.Fatal("Boot:", e)
	}
	return k
}

func newPair(t *testing.T, c api.Config) *pair {
	t.Helper()
	return &pair{copied(c), made(t, c), booted(t, c), make([]api.AlarmLook, len(c.Alarms))}
}

func (p *pair) copied() *pair {
	return &pair{p.c, p.m.Copy(), p.k.Copy(), append([]api.AlarmLook(nil), p.alarms...)}
}

// stands: the machine tells of itself what the kernel does (W1).
func (p *pair) stands(t *testing.T) {
	t.Helper()
	if l, want := plain(p.m.Look()), plain(p.k.Look()); !reflect.DeepEqual(l, want) {
		t.Fatalf("Look: %+v, not %+v", l, want)
	}
}

// step does a step to both, and answers what both answer.
func (p *pair) step(t *testing.T, s api.Step) api.Answer {
	t.Helper()
	before := plain(p.m.Look())
	a, want := plainAnswer(p.m.Step(s)), plainAnswer(p.k.Step(s))
	if !reflect.DeepEqual(a, want) {
		t.Fatalf("%+v behind %+v: %+v, not %+v", s, before, a, want)
	}
	p.follows(t, s, before, a)
	return a
}

// steps does several, and answers what the last answered.
func (p *pair) steps(t *testing.T, l ...api.Step) api.Answer {
	t.Helper()
	var a api.Answer
	for _, s := range l {
		a = p.step(t, s)
	}
	return a
}
