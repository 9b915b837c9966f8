package com_test

import (
	"reflect"
	"slices"
	"sync"
	"testing"

	"tappet/api"
	"tappet/com"
)

// copied are the same tables in memory of their own.
func copied(x api.Tables) api.Tables {
	x.Tasks, x.Rings, x.Resources, x.Isrs = slices.Clone(x.Tasks), slices.Clone(x.Rings), slices.Clone(x.Resources), slices.Clone(x.Isrs)
	x.Counters, x.Alarms, x.Messages = slices.Clone(x.Counters), slices.Clone(x.Alarms), slices.Clone(x.Messages)
	for i := range x.Tasks {
		x.Tasks[i].Own = slices.Clone(x.Tasks[i].Own)
	}
	for i := range x.Isrs {
		x.Isrs[i].Own = slices.Clone(x.Isrs[i].Own)
	}
	return x
}

// wipe writes over everything that tables hold.
func wipe(x api.Tables) {
	for i := range x.Tasks {
		clear(x.Tasks[i].Own)
	}
	for i := range x.Isrs {
		clear(x.Isrs[i].Own)
	}
	clear(x.Tasks)
	clear(x.Rings)
	clear(x.Resources)
	clear(x.Counters)
	clear(x.Alarms)
	clear(x.Isrs)
	clear(x.Messages)
}

// R3: the tables, the image and the script are read, kept nowhere and not changed.
func TestTablesAreTheCallers(t *testing.T) {
	x := ordinary()
	kept := copied(x)
	p := &pair{made(t, x), newDiary(kept)}
	c := chance(3)
	for range 200 {
		p.step(t, c.step(kept, p.n.Look()))
	}
	if !reflect.DeepEqual(x, kept) {
		t.Error("changed:", x)
	}
	wipe(x)
	q := p.copied()
	for _, r := range []*pair{p, q} {
		for range 800 {
			r.step(t, c.step(kept, r.n.Look()))
			r.stands(t)
			if r.n.Look().Phase == api.Down {
				r.reset(t)
			}
		}
	}
	b := encoded(t, kept)
	n, _ := com.Boot(b)
	clear(b)
	script := []api.Step{start(0), ret(), ret(), send(2, 5), ret(), receive(0)}
	steps := slices.Clone(script)
	alike(t, "Run", n.Run(script), made(t, kept).Run(steps))
	if !slices.Equal(steps, script) {
		t.Error("changed:", script)
	}
}

// R3: what is told is the caller's own, and no two lists share anything.
func TestToldIsNew(t *testing.T) {
	p := at(t, api.LevelCallback) // nobody comes between
	p.steps(t, initial(0, 9), send(2, 1), send(2, 2), ret(), send(7, 3), ret(), send(7, 4), ret())
	first, second := p.n.Messages(), p.n.Messages()
	if len(first[4].Queue) != 2 || len(first[9].Queue) != 2 || !first[13].Lost {
		t.Fatalf("not all is there: %+v", first)
	}
	want := told(second)
	for _, m := range first {
		for i := range m.Queue {
			m.Queue[i] = 99
		}
		_ = append(m.Queue[:0], 98, 97)
		_ = append(m.Queue, 96)
	}
	clear(first)
	p.stands(t)
	alike(t, "another look", second, p.d.messages())
	p.steps(t, receive(9), receive(4), resetFlag(3), send(7, 5), ret())
	alike(t, "a look that was told", told(second), want)

	look, marks := p.n.Look(), p.n.Marks()
	clear(look.Tasks)
	clear(look.Frames)
	clear(marks.Rings)
	p.stands(t)
	a, b := p.n.Step(send(1, 1)), p.n.Step(send(1, 1))
	if a.Begun = append(a.Begun, none); len(b.Begun) > 0 {
		t.Error("answers share memory")
	}
}

// P24.2: Run answers as the steps do, one behind the other.
func TestRun(t *testing.T) {
	c := chance(11)
	x := ordinary()
	p, n := newPair(t, x), made(t, x)
	var script []api.Step
	var want []api.Answer
	for range 400 {
		s := c.step(x, p.n.Look())
		script, want = append(script, s), append(want, p.step(t, s))
	}
	got := append(n.Run(script[:150]), n.Run(script[150:])...)
	if len(got) != len(want) {
		t.Fatalf("%d answers", len(got))
	}
	for i := range got {
		alike(t, told(script[i]), got[i], want[i])
	}
	(&pair{n, p.d}).stands(t)
	if l := n.Run(nil); len(l) != 0 {
		t.Error("Run of nothing:", l)
	}
	(&pair{n, p.d}).stands(t)
}

// Words: behind a start that is answered EOK and not idle all messages are as at first; behind no other one.
func TestStart(t *testing.T) {
	x := ordinary()
	n := made(t, x)
	n.Spoil()
	spoilt := told(n.Messages())
	is(t, n.Step(start(1)), api.EID)
	is(t, n.Step(start(-1)), api.EID)
	alike(t, "refused", told(n.Messages()), spoilt)
	is(t, n.Step(start(0)), api.EOK)
	alike(t, "started", n.Messages(), made(t, x).Messages())

	p := at(t, api.LevelTask)
	p.steps(t, initial(0, 5), send(2, 9))
	before := state(p.n)
	idles(t, p.step(t, start(0)), callback(2+6))
	idles(t, p.step(t, start(9)), callback(2+6))
	alike(t, "started twice", state(p.n), before)
	p.steps(t, ret(), ret(), ret(), call(api.SvShutdownOS), start(0))
	before = told(p.n.Messages())
	runs(t, p.step(t, ret()), none)
	idles(t, p.step(t, start(0)), none)
	alike(t, "down", told(p.n.Messages()), before)
	p.stands(t)
}

// P24.9: Reset: as it was made, whatever the state, also of a copy; it goes on from there as a new one does.
func TestReset(t *testing.T) {
	busy := at(t, api.LevelTask)
	busy.steps(t, initial(0, 9), send(2, 1), send(2, 2), send(2, 3))
	spoilt := newPair(t, ordinary())
	spoilt.n.Spoil()
	for _, p := range []*pair{newPair(t, ordinary()), spoilt, busy.copied(), busy, at(t, api.LevelShutdown), at(t, api.LevelCallback)} {
		p.reset(t)
		p.stands(t)
		q := newPair(t, ordinary())
		c := chance(9)
		for range 300 {
			s := c.step(q.d.x, q.n.Look())
			alike(t, told(s), p.step(t, s), q.step(t, s))
			p.stands(t)
		}
		p.reset(t)
		p.stands(t)
		q.stands(t)
	}
}

// P24.9, R4: a copy is alike, goes its own way, and so does what it was made of.
func TestCopyIsItsOwn(t *testing.T) {
	p := at(t, api.LevelTask)
	p.steps(t, initial(0, 9), send(2, 1), send(2, 2))
	q := p.copied()
	if q.n == nil || q.n == p.n {
		t.Fatal("no copy of its own")
	}
	q.stands(t)
	p.steps(t, send(2, 3), receive(4), initial(3, 8), resetFlag(3), receive(13), ret())
	q.stands(t)
	p.stands(t)
	q.steps(t, receive(13), receive(4), receive(4), resetFlag(4), send(7, 6), initial(8, 1), initial(6, 0))
	p.stands(t)
	q.stands(t)
	r := q.copied()
	q.reset(t)
	q.step(t, start(0))
	r.stands(t)
	p.stands(t)
	r.reset(t)
	q.stands(t)
	p.stands(t)
}

// R4: two nodes of the same tables know nothing of one another.
func TestTwoNodes(t *testing.T) {
	x := ordinary()
	p, q := newPair(t, x), newPair(t, x)
	p.steps(t, start(0), ret(), ret(), send(2, 1), send(2, 2), initial(8, 0), resetFlag(3))
	q.stands(t)
	q.steps(t, start(0), ret(), ret(), send(7, 1))
	p.stands(t)
	q.stands(t)
	q.reset(t)
	p.stands(t)
}

// What only tells changes nothing: several may ask at one time; copies go their ways by themselves.
func TestAskedByMany(t *testing.T) {
	p := at(t, api.LevelTask)
	p.steps(t, send(2, 1), send(2, 2))
	var w sync.WaitGroup
	for n := range 4 {
		w.Add(1)
		go func() {
			defer w.Done()
			c := chance(n)
			for range 30 {
				p.n.Marks()
				p.n.Messages()
				l := p.n.Look()
				m := p.n.Copy()
				for range 20 {
					m.Step(c.step(p.d.x, l))
				}
				m.Reset()
				m.Step(start(0))
			}
		}()
	}
	w.Wait()
	p.stands(t)
}
