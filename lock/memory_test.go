package lock_test

import (
	"reflect"
	"slices"
	"sync"
	"testing"

	"tappet/api"
)

// R3: the tables are read, kept nowhere and not changed.
func TestTablesAreTheCallers(t *testing.T) {
	x := ordinary()
	kept := copied(x)
	l, b := made(t, x), newBook(x)
	l.Get(task(1), 3)
	b.get(task(1), 3)
	l.Enter(1)
	b.enter(1)
	if !reflect.DeepEqual(x, kept) {
		t.Error("changed:", x)
	}
	for i := range x.Tasks {
		clear(x.Tasks[i].Own)
	}
	for i := range x.Isrs {
		clear(x.Isrs[i].Own)
	}
	clear(x.Tasks)
	clear(x.Isrs)
	clear(x.Resources)
	stands(t, l, b)
	for _, o := range owners(b.x) {
		for r := range b.x.Resources {
			gets(t, l, o, r, b.get(o, r))
		}
	}
	stands(t, l, b)
}

// R3: what Held answers is the caller's own.
func TestHeldIsNew(t *testing.T) {
	l := made(t, ordinary())
	for _, r := range []int{6, 0, 1} {
		gets(t, l, task(1), r, api.EOK)
	}
	h, k := l.Held(task(1)), l.Held(task(1))
	h[0], h[1] = 7, 8
	h = append(h[:1], 9, 9)
	if !slices.Equal(k, []int{6, 0, 1}) {
		t.Error("shared:", h, k)
	}
	holds(t, l, task(1), 6, 0, 1)
	gets(t, l, task(1), 3, api.EOK)
	drops(t, l, task(1), 3)
	if !slices.Equal(k, []int{6, 0, 1}) {
		t.Error("changed:", k)
	}
}

// P19.5, R4: a copy is alike, goes its own way, and so does what it was made of.
func TestCopyIsItsOwn(t *testing.T) {
	x := ordinary()
	l, b := made(t, x), newBook(x)
	p := &pair{l, b}
	p.get(t, task(1), 6)
	p.get(t, task(1), 0)
	p.get(t, isr(2), 5)
	p.enter(t, 1)
	p.put(t, api.Gate{Shut: true, All: 2, Os: 3})
	old := p.copied(t)
	p.stands(t)
	p.release(t, task(1), 0)
	p.get(t, isr(0), 0)
	p.leave(t, 1)
	p.enter(t, 4)
	p.put(t, api.Gate{Os: 1})
	p.stands(t)
	old.stands(t)
	old.drop(t, task(1))
	old.drop(t, isr(2))
	old.enter(t, 3)
	old.suspend(t, true)
	p.stands(t)
	old.stands(t)
	third := old.copied(t)
	third.reset(t)
	p.stands(t)
	old.stands(t)
	third.stands(t)
}

// R4: two locks of the same tables know nothing of one another.
func TestTwoLocks(t *testing.T) {
	x := ordinary()
	l, m := made(t, x), made(t, x)
	gets(t, l, task(0), 0, api.EOK)
	l.Enter(1)
	l.Close()
	stands(t, m, newBook(x))
	gets(t, m, task(1), 0, api.EOK)
	m.Reset()
	heldBy(t, l, 0, task(0))
	has(t, l, 1, true)
	gate(t, l, api.Gate{Shut: true})
}

// What only tells changes nothing: several may ask at one time.
func TestAskedByMany(t *testing.T) {
	x := ordinary()
	p := newPair(t, x)
	p.get(t, task(1), 6)
	p.get(t, task(1), 0)
	p.enter(t, 1)
	var w sync.WaitGroup
	for range 4 {
		w.Add(1)
		go func() {
			defer w.Done()
			for range 100 {
				p.l.Held(task(1))
				p.l.Holder(0)
				p.l.Priority(task(1))
				p.l.Has(1)
				p.l.Gate()
				p.l.Takes(0)
				p.l.Copy()
			}
		}()
	}
	w.Wait()
	p.stands(t)
}
