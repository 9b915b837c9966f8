package core_test

import (
	"reflect"
	"sync"
	"testing"

	"tappet/api"
)

// busy is a core in which somebody runs and leaves to wait, some are preempted, some ready, one waits, and resources are held, by an ISR, too.
func busy(t *testing.T) *pair {
	t.Helper()
	p := newPair(t, ordinary())
	p.activate(t, 1)
	p.best(t)
	p.waitEvent(t, 1)
	p.carry(t)
	p.setEvent(t, 1, 2)
	p.activate(t, 0)
	p.activate(t, 0)
	p.best(t)
	p.get(t, task(0), 0)
	p.activate(t, 6)
	p.preempt(t)
	p.carry(t)
	p.best(t)
	p.activate(t, 4)
	p.activate(t, 3)
	p.activate(t, 2)
	p.preempt(t)
	p.carry(t)
	p.best(t)
	p.get(t, isr(0), 2)
	p.setEvent(t, 4, 1<<31)
	p.waitEvent(t, 1)
	p.stands(t)
	if l := p.c.Look(); len(l.Preempted) != 2 || l.Leaving != api.LeaveWait || len(l.Tasks[0].Held) != 1 || l.Tasks[1].State != api.Waiting || !l.Tasks[6].Internal || len(l.Rings[4]) != 2 {
		t.Fatal("not busy:", l)
	}
	return p
}

// P20.9: the look of a core in which all is there, told by hand.
func TestLook(t *testing.T) {
	want := api.CoreLook{
		Tasks: []api.TaskLook{
			{State: api.Ready, Priority: 3, Active: 2, Held: []int{0}},
			{State: api.Waiting, Priority: 3, Active: 1, Set: 2, Waits: 1},
			{State: api.Ready, Priority: 2, Active: 1},
			{State: api.Ready, Priority: 1, Active: 1},
			{State: api.Running, Priority: 5, Active: 1, Set: 1 << 31, Waits: 1},
			{State: api.Suspended, Priority: 2},
			{State: api.Ready, Priority: 4, Active: 1, Internal: true},
		},
		Rings:     [][]int{nil, nil, nil, {2}, {0, 3}},
		Preempted: []int{0, 6},
		Leaving:   api.LeaveWait,
	}
	c := busy(t).c
	if l := plain(c.Look()); !reflect.DeepEqual(l, plain(want)) {
		t.Errorf("Look: %+v, not %+v", l, want)
	}
	is(t, "Get", c.Get(task(0), 4), api.EOK)
	if h := c.Look().Tasks[0].Held; len(h) != 2 || h[0] != 0 || h[1] != 4 {
		t.Error("not in the order of taking:", h)
	}
}

// P20.9: numbers of no task.
func TestStateOfNoTask(t *testing.T) {
	c := busy(t).c
	for _, n := range append([]int{7}, beyond...) {
		if s, e := c.State(n); s != 0 || e != api.EID {
			t.Errorf("State(%d): %d %d", n, s, e)
		}
	}
}

// R3: the tables are read, kept nowhere and not changed.
func TestTablesAreTheCallers(t *testing.T) {
	x := ordinary()
	kept := copied(x)
	p := newPair(t, x)
	p.activate(t, 5)
	p.best(t)
	p.get(t, task(5), 0)
	if !reflect.DeepEqual(x, kept) {
		t.Error("changed:", x)
	}
	for i := range x.Tasks {
		clear(x.Tasks[i].Own)
	}
	for i := range x.Isrs {
		clear(x.Isrs[i].Own)
	}
	clear(x.Tasks)
	clear(x.Rings)
	clear(x.Resources)
	clear(x.Isrs)
	p.stands(t)
	c := chance(5)
	for range 500 {
		p.step(t, &c)
		p.stands(t)
	}
}

// spoil writes over everything that a look holds.
func spoil(l api.CoreLook) {
	for i := range l.Tasks {
		for k := range l.Tasks[i].Held {
			l.Tasks[i].Held[k] = 99
		}
		l.Tasks[i].Held = append(l.Tasks[i].Held[:0], 98, 97)
	}
	clear(l.Tasks)
	for i, ring := range l.Rings {
		for k := range ring {
			ring[k] = 96
		}
		l.Rings[i] = append(ring[:0], 95, 94, 93)
	}
	clear(l.Rings)
	for i := range l.Preempted {
		l.Preempted[i] = 92
	}
}

// R3: what Look and Held answer is the caller's own, and no two lists share anything.
func TestLooksAreNew(t *testing.T) {
	p := busy(t)
	l, m := p.c.Look(), p.c.Look()
	spoil(l)
	p.stands(t)
	if !reflect.DeepEqual(plain(m), plain(p.b.look())) {
		t.Error("shared:", m)
	}
	h := p.c.Held(task(0))
	h[0] = 77
	_ = append(h[:0], 78, 79)
	p.stands(t)
	ring := m.Rings[3]
	_ = append(ring, 91, 91)
	if !reflect.DeepEqual(plain(m), plain(p.b.look())) {
		t.Error("lists of one look share memory:", m)
	}
	p.carry(t)
	p.best(t)
	p.terminate(t)
	if m.Tasks[4].State != api.Running || m.Leaving != api.LeaveWait || len(m.Preempted) != 2 {
		t.Error("a look that was told changed:", m)
	}
}

// P20.10: Reset: all is as New made it, in each state; and it goes on from there.
func TestReset(t *testing.T) {
	p := busy(t)
	p.c.Put(api.Gate{Shut: true, All: 1, Os: 2})
	p.reset()
	p.stands(t)
	if g := p.c.Gate(); g != (api.Gate{}) {
		t.Error("Gate:", g)
	}
	runsNot(t, p.c, api.ErrState)
	if n, e := p.c.Carry(); n != -1 || e != api.ErrLeave {
		t.Error("Carry:", n, e)
	}
	is(t, "Get of what was held", p.c.Get(isr(0), 2), api.EOK)
	q := newPair(t, ordinary())
	p.c.Reset()
	c, d := chance(9), chance(9)
	for range 500 {
		p.step(t, &c)
		q.step(t, &d)
		stands(t, p.c, q.b)
	}
}

// P20.10, R4: a copy is alike, goes its own way, and so does what it was made of.
func TestCopyIsItsOwn(t *testing.T) {
	p := busy(t)
	q := p.copied()
	if q.c == nil || q.c == p.c || q.c.Lock == p.c.Lock {
		t.Fatal("no copy of its own")
	}
	q.stands(t)
	p.setEvent(t, 4, 1)
	p.carry(t)
	p.drop(t, isr(0))
	p.best(t)
	p.terminate(t)
	q.stands(t)
	p.stands(t)
	q.setEvent(t, 1, 1)
	q.carry(t)
	q.best(t)
	q.abort(t)
	q.drop(t, task(0))
	q.stands(t)
	p.stands(t)
	third := q.copied()
	q.reset()
	q.stands(t)
	third.stands(t)
	third.reset()
	p.stands(t)
	is(t, "Activate", q.c.Activate(7), api.EID)
	is(t, "Chain", p.c.Chain(0), api.ECallLevel)
}

// R4: two cores of the same tables know nothing of one another.
func TestTwoCores(t *testing.T) {
	p, q := busy(t), newPair(t, ordinary())
	q.stands(t)
	q.activate(t, 0)
	q.best(t)
	q.get(t, task(0), 2)
	q.stands(t)
	p.stands(t)
	q.reset()
	p.stands(t)
}

// What only tells changes nothing: several may ask at one time.
func TestAskedByMany(t *testing.T) {
	p := busy(t)
	var w sync.WaitGroup
	for range 4 {
		w.Add(1)
		go func() {
			defer w.Done()
			for n := range 100 {
				p.c.Look()
				p.c.State(n % 8)
				p.c.GetEvent(n % 8)
				p.c.Held(task(n % 8))
				p.c.Priority(task(n % 8))
				p.c.Leaving()
				p.c.Waiting()
				p.c.Due()
				p.c.Running()
				p.c.Copy()
			}
		}()
	}
	w.Wait()
	p.stands(t)
}
