package lock_test

import (
	"slices"
	"testing"

	"tappet/api"
	"tappet/lock"
)

type taking struct {
	by   api.Owner
	what int
}

// book reads the chapter a second time: it keeps all takings in one list, and reckons the rest from that and from the tables.
type book struct {
	x       api.Tables
	takings []taking
	inside  []int
	gate    api.Gate
}

func newBook(x api.Tables) *book { return &book{x: copied(x)} }

func (b *book) isOwner(o api.Owner) bool {
	if o.Isr {
		return o.ID >= 0 && o.ID < len(b.x.Isrs)
	}
	return o.ID >= 0 && o.ID < len(b.x.Tasks)
}

func (b *book) isResource(r int) bool {
	return r >= 0 && r < len(b.x.Resources) && !b.x.Resources[r].Internal
}

// row tells an owner's base priority, and its own.
func (b *book) row(o api.Owner) (int, []int) {
	if o.Isr {
		return b.x.Isrs[o.ID].Priority, b.x.Isrs[o.ID].Own
	}
	return b.x.Tasks[o.ID].Priority, b.x.Tasks[o.ID].Own
}

func (b *book) get(o api.Owner, r int) api.Status {
	if !b.isOwner(o) || !b.isResource(r) {
		return api.EID
	}
	base, own := b.row(o)
	if _, held := b.holder(r); held || !slices.Contains(own, r) || base > b.x.Resources[r].Ceiling {
		return api.EAccess
	}
	b.takings = append(b.takings, taking{o, r})
	return api.EOK
}

func (b *book) release(o api.Owner, r int) api.Status {
	if !b.isOwner(o) || !b.isResource(r) {
		return api.EID
	}
	h := b.held(o)
	if len(h) == 0 || h[len(h)-1] != r {
		return api.ENoFunc
	}
	b.takings = slices.DeleteFunc(b.takings, func(x taking) bool { return x.what == r })
	return api.EOK
}

func (b *book) drop(o api.Owner) (int, bool) {
	h := b.held(o)
	if len(h) == 0 {
		return -1, false
	}
	b.takings = slices.DeleteFunc(b.takings, func(x taking) bool { return x.by == o })
	return h[len(h)-1], true
}

func (b *book) held(o api.Owner) []int {
	var l []int
	for _, x := range b.takings {
		if x.by == o {
			l = append(l, x.what)
		}
	}
	return l
}

func (b *book) holder(r int) (api.Owner, bool) {
	for _, x := range b.takings {
		if x.what == r {
			return x.by, true
		}
	}
	return api.Owner{}, false
}

func (b *book) priority(o api.Owner) int {
	if !b.isOwner(o) {
		return -1
	}
	p, _ := b.row(o)
	for _, r := range b.held(o) {
		if c := b.x.Resources[r].Ceiling; c > p {
			p = c
		}
	}
	if !o.Isr && b.has(o.ID) && b.x.Tasks[o.ID].Internal > p {
		p = b.x.Tasks[o.ID].Internal
	}
	return p
}

func (b *book) has(n int) bool { return slices.Contains(b.inside, n) }

func (b *book) enter(n int) api.Errno {
	e := b.leave(n)
	if e == api.OK && b.x.Tasks[n].Internal >= 0 {
		b.inside = append(b.inside, n)
	}
	return e
}

func (b *book) leave(n int) api.Errno {
	if !b.isOwner(task(n)) {
		return api.ErrArg
	}
	b.inside = slices.DeleteFunc(b.inside, func(m int) bool { return m == n })
	return api.OK
}

func (b *book) takes(n int) bool {
	if !b.isOwner(isr(n)) {
		return false
	}
	if b.x.Isrs[n].Category == 1 {
		return !b.gate.Shut && b.gate.All == 0
	}
	return b.gate == api.Gate{}
}

func (b *book) copy() *book {
	return &book{copied(b.x), slices.Clone(b.takings), slices.Clone(b.inside), b.gate}
}

// owners are all owners of tables, and some that there are not.
func owners(x api.Tables) []api.Owner {
	var l []api.Owner
	for n := -1; n <= len(x.Tasks); n++ {
		l = append(l, task(n))
	}
	for n := -1; n <= len(x.Isrs); n++ {
		l = append(l, isr(n))
	}
	return l
}

// stands: of all owners, resources and ISRs, and of those beside them, the lock tells what the book does.
func stands(t *testing.T, l *lock.Lock, b *book) {
	t.Helper()
	for _, o := range owners(b.x) {
		holds(t, l, o, b.held(o)...)
		runsAt(t, l, o, b.priority(o))
		has(t, l, o.ID, b.has(o.ID))
		takes(t, l, o.ID, b.takes(o.ID))
	}
	for r := -1; r <= len(b.x.Resources); r++ {
		if o, held := b.holder(r); held {
			heldBy(t, l, r, o)
		} else {
			free(t, l, r)
		}
	}
	gate(t, l, b.gate)
	keepsTheRules(t, l, b)
}

// keepsTheRules: P19.6, from the lock's own words and the tables.
func keepsTheRules(t *testing.T, l *lock.Lock, b *book) {
	t.Helper()
	count := map[int]int{}
	for _, o := range owners(b.x) {
		if !b.isOwner(o) {
			continue
		}
		p := l.Priority(o)
		if base, _ := b.row(o); p < base {
			t.Fatalf("%v runs at %d, below its base priority %d", o, p, base)
		}
		for _, r := range l.Held(o) {
			count[r]++
			if c := b.x.Resources[r].Ceiling; p < c || count[r] > 1 {
				t.Fatalf("%v runs at %d, holds %d of ceiling %d, held %d times", o, p, r, c, count[r])
			}
		}
	}
}
