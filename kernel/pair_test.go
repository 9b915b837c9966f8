package kernel_test

import (
	"reflect"
	"slices"
	"testing"

	"tappet/api"
	"tappet/kernel"
)

// pair is a kernel and the book that it must be like.
type pair struct {
	k *kernel.Kernel
	b *book
}

func newPair(t *testing.T, x api.Tables) *pair {
	t.Helper()
	return &pair{made(t, x), newBook(x)}
}

func (p *pair) copied() *pair { return &pair{p.k.Copy(), p.b.copy()} }

func (p *pair) stands(t *testing.T) {
	t.Helper()
	stands(t, p.k, p.b)
}

// step does a step to both, and answers what both answer.
func (p *pair) step(t *testing.T, s api.Step) api.Answer {
	t.Helper()
	before := p.b.look()
	a, want := plainAnswer(p.k.Step(s)), plainAnswer(p.b.step(s))
	if !reflect.DeepEqual(a, want) {
		t.Fatalf("%+v behind %+v: %+v, not %+v", s, before, a, want)
	}
	p.follows(t, s, before, a)
	return a
}

// steps does several, and answers what the last answered.
func (p *pair) steps(t *testing.T, l ...api.Step) api.Answer {
	t.Helper()
	var a api.Answer
	for _, s := range l {
		a = p.step(t, s)
	}
	return a
}

func (p *pair) effect(t *testing.T, x api.Effect) api.Answer {
	t.Helper()
	a, want := plainAnswer(p.k.Effect(x)), plainAnswer(p.b.effect(x))
	if !reflect.DeepEqual(a, want) {
		t.Fatalf("Effect %+v: %+v, not %+v", x, a, want)
	}
	return a
}

func (p *pair) reset(t *testing.T) {
	t.Helper()
	if e := p.k.Reset(); e != api.OK {
		t.Fatal("Reset:", e)
	}
	p.b = newBook(p.b.x)
}

// follows: P22.7 of a step, and W4: told by the kernel's own words.
func (p *pair) follows(t *testing.T, s api.Step, before api.Look, a api.Answer) {
	t.Helper()
	l := plain(p.k.Look())
	if a.Idle && (!reflect.DeepEqual(l, before) || a.Status != api.EOK || len(a.Begun)+len(a.Expired) > 0 || a.V != [3]uint32{}) {
		t.Fatalf("%+v: idle, and something changed: %+v, %+v", s, a, l)
	}
	if s.Kind == api.SCall && a.Status != api.EOK {
		refusedChangesNothing(t, p.b.x, before, l, a)
	}
	n := len(l.Frames)
	if n == 0 && a.Run != (api.Frame{}) || n > 0 && l.Frames[n-1] != a.Run {
		t.Fatalf("%+v: Run %+v, and %+v", s, a.Run, l.Frames)
	}
	if n == 1 && a.Run.Kind == api.FTask && p.b.x.Tasks[a.Run.ID].Full && !l.Shut && l.All+l.Os == 0 {
		for i, r := range l.Rings {
			if len(r) > 0 && p.b.x.Rings[i].Priority > l.Tasks[a.Run.ID].Priority {
				t.Fatalf("%+v: ring %d should run: %+v", s, i, l)
			}
		}
	}
}

// refusedChangesNothing: P22.7: but that its error's routine begins.
func refusedChangesNothing(t *testing.T, x api.Tables, before, l api.Look, a api.Answer) {
	t.Helper()
	isError := func(f api.Frame) bool { return f.Kind == api.FError }
	if x.Uses&api.UseError != 0 && !slices.ContainsFunc(before.Frames, isError) {
		if len(a.Begun) != 1 || !isError(a.Begun[0]) || a.Begun[0].Status != a.Status {
			t.Fatalf("refused, and begun are %+v", a)
		}
		before.Frames = append(before.Frames, a.Begun[0])
	} else if len(a.Begun) > 0 {
		t.Fatalf("refused, and begun are %+v", a)
	}
	if !reflect.DeepEqual(l, before) {
		t.Fatalf("refused, and changed: %+v, not %+v", l, before)
	}
}
