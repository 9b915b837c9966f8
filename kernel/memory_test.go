package kernel_test

import (
	"reflect"
	"sync"
	"testing"

	"tappet/api"
)

// R3: the tables, and the image, are read, kept nowhere and not changed.
func TestTablesAreTheCallers(t *testing.T) {
	x := ordinary()
	kept := copied(x)
	p := newPair(t, x)
	c := chance(3)
	for range 200 {
		p.step(t, c.step(p.b))
	}
	if !reflect.DeepEqual(x, kept) {
		t.Error("changed:", x)
	}
	for i := range x.Tasks {
		clear(x.Tasks[i].Own)
	}
	for i := range x.Isrs {
		clear(x.Isrs[i].Own)
	}
	clear(x.Tasks)
	clear(x.Rings)
	clear(x.Resources)
	clear(x.Counters)
	clear(x.Alarms)
	clear(x.Isrs)
	clear(x.Messages)
	p.stands(t)
	p.reset(t)
	for range 800 {
		p.step(t, c.step(p.b))
		p.stands(t)
		if p.b.phase == api.Down {
			p.reset(t)
		}
	}

	b := encoded(t, kept)
	k := booted(t, kept)
	clear(b)
	stands(t, k, newBook(kept))
}

// spoil writes over everything that a look holds.
func spoil(l api.Look) {
	for i := range l.Tasks {
		for n := range l.Tasks[i].Held {
			l.Tasks[i].Held[n] = 99
		}
		l.Tasks[i].Held = append(l.Tasks[i].Held[:0], 98, 97)
	}
	for _, lists := range [][][]int{l.Rings, l.Held, {l.Requested, l.Preempted}} {
		for _, list := range lists {
			for n := range list {
				list[n] = 96
			}
			_ = append(list[:0], 95, 94, 93)
		}
		clear(lists)
	}
	clear(l.Tasks)
	clear(l.Frames)
	clear(l.Counters)
	clear(l.Alarms)
}

// R3: what is told is the caller's own, and no two lists share anything.
func TestToldIsNew(t *testing.T) {
	p := busy(t)
	l, m := p.k.Look(), p.k.Look()
	marks, other := p.k.Marks(), p.k.Marks()
	spoil(l)
	clear(marks.Rings)
	p.stands(t)
	if !reflect.DeepEqual(plain(m), p.b.look()) || !reflect.DeepEqual(other, p.b.marks) {
		t.Errorf("shared: %+v, %+v", m, other)
	}
	want := plain(m)
	for _, list := range append([][]int{m.Requested, m.Preempted}, append(m.Rings, m.Held...)...) {
		_ = append(list, 91, 91)
	}
	_ = append(m.Frames, api.Frame{Kind: 91})
	p.step(t, call(api.SvShutdownOS))
	p.reset(t)
	if !reflect.DeepEqual(plain(m), want) {
		t.Errorf("a look that was told changed: %+v", m)
	}
}

// R3: so is what a step answers: the next step tells the same numbers.
func TestAnswersAreNew(t *testing.T) {
	p := at(t, api.LevelTask)
	p.steps(t, call(api.SvSetRelAlarm, 4, 1, 1), call(api.SvSetRelAlarm, 3, 1, 1))
	first := p.k.Step(tick(1))
	p.b.step(tick(1))
	if len(first.Expired) != 2 || len(first.Begun) != 1 {
		t.Fatalf("tick: %+v", first)
	}
	kept := plainAnswer(first)
	clear(first.Expired)
	clear(first.Begun)
	p.stands(t)
	p.step(t, ret())
	second := p.step(t, tick(1))
	if !reflect.DeepEqual(second.Expired, kept.Expired) || !reflect.DeepEqual(second.Begun, kept.Begun) {
		t.Errorf("%+v, not %+v", second, kept)
	}
	p.step(t, ret())
	answers := p.k.Run([]api.Step{tick(1), ret(), tick(1)})
	_ = append(answers[0].Begun[:0], api.Frame{Kind: 99}, api.Frame{Kind: 98})
	_ = append(answers[0].Expired[:0], 97, 96)
	if !reflect.DeepEqual(answers[2].Expired, kept.Expired) || answers[2].Begun[0].Kind == 99 || answers[2].Begun[0].Kind == 98 {
		t.Errorf("answers share memory: %+v", answers)
	}
}

// P22.6: Reset: as it was made, whatever the state, also of a copy; it goes on from there as a new one does.
func TestReset(t *testing.T) {
	for _, p := range []*pair{newPair(t, ordinary()), busy(t), at(t, api.LevelShutdown), at(t, api.LevelCallback), busy(t).copied()} {
		p.reset(t)
		p.stands(t)
		q := newPair(t, p.b.x)
		c := chance(9)
		for range 300 {
			s := c.step(q.b)
			if a, b := p.step(t, s), q.step(t, s); !reflect.DeepEqual(a, b) {
				t.Fatalf("%+v: %+v, not %+v", s, a, b)
			}
			stands(t, p.k, q.b)
		}
		p.reset(t)
		p.stands(t)
		q.stands(t)
	}
}

// P22.6, R4: a copy is alike, goes its own way, and so does what it was made of.
func TestCopyIsItsOwn(t *testing.T) {
	p := busy(t)
	q := p.copied()
	if q.k == nil || q.k == p.k {
		t.Fatal("no copy of its own")
	}
	q.stands(t)
	p.steps(t, ret(), ret(), ret(), ret(), irq(2), tick(0))
	q.stands(t)
	p.stands(t)
	q.steps(t, tick(1), ret(), tick(0), call(api.SvShutdownOS, 3))
	q.stands(t)
	p.stands(t)
	third := q.copied()
	q.reset(t)
	q.steps(t, start(1), ret())
	q.stands(t)
	third.stands(t)
	third.reset(t)
	p.stands(t)
	third.step(t, start(0))
	third.stands(t)
	q.stands(t)
}

// R4: two kernels of the same tables know nothing of one another.
func TestTwoKernels(t *testing.T) {
	p, q := busy(t), newPair(t, ordinary())
	q.stands(t)
	q.steps(t, start(1), ret(), irq(1), tick(0), tick(1))
	q.stands(t)
	p.stands(t)
	q.reset(t)
	p.stands(t)
}

// What only tells changes nothing: several may ask at one time; copies go their ways by themselves.
func TestAskedByMany(t *testing.T) {
	p := busy(t)
	var w sync.WaitGroup
	for n := range 4 {
		w.Add(1)
		go func() {
			defer w.Done()
			c := chance(n)
			for range 30 {
				p.k.Look()
				p.k.Marks()
				k := p.k.Copy()
				for range 20 {
					k.Step(c.step(p.b))
				}
				k.Reset()
				k.Step(start(0))
			}
		}()
	}
	w.Wait()
	p.stands(t)
}
