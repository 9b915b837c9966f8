package core_test

import (
	"fmt"
	"reflect"
	"slices"
	"testing"

	"tappet/api"
	"tappet/core"
)

type taking struct {
	by   api.Owner
	what int
}

// book reads the chapter a second time: it keeps no state and no ring, but what was asked, in one list the order of all that joined some ring, and who was preempted, waits, runs; and reckons the rest from that and from the tables.
type book struct {
	x       api.Tables
	active  []int
	set     []uint32
	waits   []uint32
	waiting []int
	joined  []int
	aside   []int
	run     int
	leaving api.LeaveKind
	takings []taking
	inside  []int
}

func newBook(x api.Tables) *book {
	n := len(x.Tasks)
	return &book{x: copied(x), active: make([]int, n), set: make([]uint32, n), waits: make([]uint32, n), run: -1}
}

func (b *book) copy() *book {
	return &book{copied(b.x), slices.Clone(b.active), slices.Clone(b.set), slices.Clone(b.waits), slices.Clone(b.waiting), slices.Clone(b.joined), slices.Clone(b.aside), b.run, b.leaving, slices.Clone(b.takings), slices.Clone(b.inside)}
}

// key tells two states apart. (What somebody holds is told by owner: who took ahead of whom is no part of it.)
func (b *book) key() string {
	return fmt.Sprint(b.look(), b.waiting, b.run, b.held(isr(0)))
}

func without(l []int, n int) []int {
	return slices.DeleteFunc(l, func(m int) bool { return m == n })
}

func (b *book) has(n int) bool      { return n >= 0 && n < len(b.x.Tasks) }
func (b *book) base(n int) int      { return b.x.Tasks[n].Priority }
func (b *book) extended(n int) bool { return b.x.Tasks[n].Mask != 0 }

func (b *book) state(n int) (api.TaskState, api.Status) {
	switch {
	case !b.has(n):
		return 0, api.EID
	case n == b.run:
		return api.Running, api.EOK
	case slices.Contains(b.waiting, n):
		return api.Waiting, api.EOK
	case b.active[n] > 0:
		return api.Ready, api.EOK
	}
	return api.Suspended, api.EOK
}

// M5, P20.2.
func (b *book) activate(n int) api.Status {
	if !b.has(n) {
		return api.EID
	}
	if b.active[n] == b.x.Tasks[n].Limit {
		return api.ELimit
	}
	if b.active[n] == 0 {
		b.set[n] = 0
	}
	b.active[n]++
	b.joined = append(b.joined, n)
	return api.EOK
}

// calls: whether the running task can call something.
func (b *book) calls() bool { return b.run >= 0 && b.leaving == api.LeaveNone }

func (b *book) holds() bool { return len(b.held(task(b.run))) > 0 }

// M6, P20.3.
func (b *book) terminate() api.Status {
	if !b.calls() {
		return api.ECallLevel
	}
	if b.holds() {
		return api.EResource
	}
	b.leaving = api.LeaveEnd
	return api.EOK
}

func (b *book) chain(n int) api.Status {
	switch {
	case !b.calls():
		return api.ECallLevel
	case !b.has(n):
		return api.EID
	case b.holds():
		return api.EResource
	case n == b.run:
		b.leaving = api.LeaveAgain
		return api.EOK
	case b.active[n] == b.x.Tasks[n].Limit:
		return api.ELimit
	}
	b.activate(n)
	b.leaving = api.LeaveEnd
	return api.EOK
}

// greatest is the greatest priority of those that joined, or -1.
func (b *book) greatest() int {
	p := -1
	for _, n := range b.joined {
		p = max(p, b.base(n))
	}
	return p
}

func (b *book) schedule() api.Status {
	if !b.calls() {
		return api.ECallLevel
	}
	if b.holds() {
		return api.EResource
	}
	if b.greatest() > b.base(b.run) {
		b.leaving = api.LeaveYield
	}
	return api.EOK
}

func (b *book) abort() api.Status {
	if !b.calls() {
		return api.ECallLevel
	}
	b.drop(task(b.run))
	b.leaving = api.LeaveEnd
	return api.EOK
}

// asked: M9's errors of a task that is named.
func (b *book) asked(n int) api.Status {
	s, status := b.state(n)
	if status != api.EOK {
		return status
	}
	if !b.extended(n) {
		return api.EAccess
	}
	if s == api.Suspended {
		return api.EState
	}
	return api.EOK
}

// M9, P20.4.
func (b *book) setEvent(n int, mask uint32) api.Status {
	if s := b.asked(n); s != api.EOK {
		return s
	}
	b.set[n] |= mask
	b.wake(n)
	return api.EOK
}

// wake: a waiting one, of whose events one is set, waits no more.
func (b *book) wake(n int) {
	if slices.Contains(b.waiting, n) && b.set[n]&b.waits[n] != 0 {
		b.waits[n] = 0
		b.waiting = without(b.waiting, n)
		b.joined = append(b.joined, n)
	}
}

func (b *book) getEvent(n int) (uint32, api.Status) {
	if s := b.asked(n); s != api.EOK {
		return 0, s
	}
	return b.set[n], api.EOK
}

func (b *book) clearEvent(mask uint32) api.Status {
	if !b.calls() {
		return api.ECallLevel
	}
	if !b.extended(b.run) {
		return api.EAccess
	}
	b.set[b.run] &^= mask
	return api.EOK
}

func (b *book) waitEvent(mask uint32) api.Status {
	switch {
	case !b.calls():
		return api.ECallLevel
	case !b.extended(b.run):
		return api.EAccess
	case b.holds():
		return api.EResource
	case b.set[b.run]&mask != 0:
		return api.EOK
	}
	b.leaving, b.waits[b.run] = api.LeaveWait, mask
	return api.EOK
}

// owner tells an owner's base priority, and its own; false: there is none such.
func (b *book) owner(o api.Owner) (int, []int, bool) {
	switch {
	case o.Isr && o.ID >= 0 && o.ID < len(b.x.Isrs):
		return b.x.Isrs[o.ID].Priority, b.x.Isrs[o.ID].Own, true
	case !o.Isr && b.has(o.ID):
		return b.base(o.ID), b.x.Tasks[o.ID].Own, true
	}
	return 0, nil, false
}

func (b *book) isResource(r int) bool {
	return r >= 0 && r < len(b.x.Resources) && !b.x.Resources[r].Internal
}

// M10, P20.5.
func (b *book) get(o api.Owner, r int) api.Status {
	_, own, there := b.owner(o)
	if !there || !b.isResource(r) {
		return api.EID
	}
	held := slices.ContainsFunc(b.takings, func(x taking) bool { return x.what == r })
	if held || !slices.Contains(own, r) {
		return api.EAccess
	}
	b.takings = append(b.takings, taking{o, r})
	return api.EOK
}

func (b *book) release(o api.Owner, r int) api.Status {
	if _, _, there := b.owner(o); !there || !b.isResource(r) {
		return api.EID
	}
	h := b.held(o)
	if len(h) == 0 || h[len(h)-1] != r {
		return api.ENoFunc
	}
	b.takings = slices.DeleteFunc(b.takings, func(x taking) bool { return x.what == r })
	return api.EOK
}

func (b *book) drop(o api.Owner) (int, bool) {
	h := b.held(o)
	if len(h) == 0 {
		return -1, false
	}
	b.takings = slices.DeleteFunc(b.takings, func(x taking) bool { return x.by == o })
	return h[len(h)-1], true
}

func (b *book) held(o api.Owner) []int {
	var l []int
	for _, x := range b.takings {
		if x.by == o {
			l = append(l, x.what)
		}
	}
	return l
}

func (b *book) priority(o api.Owner) int {
	p, _, there := b.owner(o)
	if !there {
		return -1
	}
	for _, r := range b.held(o) {
		p = max(p, b.x.Resources[r].Ceiling)
	}
	if !o.Isr && slices.Contains(b.inside, o.ID) {
		p = max(p, b.x.Tasks[o.ID].Internal)
	}
	return p
}

// M7, P20.6.
func (b *book) carry() (int, api.Errno) {
	n, how := b.run, b.leaving
	if how == api.LeaveNone {
		return -1, api.ErrLeave
	}
	b.run, b.leaving = -1, api.LeaveNone
	if how != api.LeavePreempt {
		b.inside = without(b.inside, n)
	}
	switch how {
	case api.LeaveEnd:
		b.active[n]--
	case api.LeaveAgain:
		b.set[n] = 0
		b.joined = append(b.joined, n)
	case api.LeaveWait:
		b.waiting = append(b.waiting, n)
		slices.Sort(b.waiting)
		b.wake(n)
	default:
		b.aside = append(b.aside, n)
	}
	return n, api.OK
}

func (b *book) isWaiting() bool { return len(b.joined)+len(b.aside) > 0 }

// M8, P20.7.
func (b *book) best() (int, api.Errno) {
	if b.run >= 0 {
		return -1, api.ErrOne
	}
	if !b.isWaiting() {
		return -1, api.ErrState
	}
	p, last := b.greatest(), len(b.aside)-1
	if last >= 0 && b.priority(task(b.aside[last])) >= p {
		b.run = b.aside[last]
		b.aside = b.aside[:last]
	} else {
		i := slices.IndexFunc(b.joined, func(n int) bool { return b.base(n) == p })
		b.run = b.joined[i]
		b.joined = slices.Delete(b.joined, i, i+1)
	}
	if b.x.Tasks[b.run].Internal >= 0 && !slices.Contains(b.inside, b.run) {
		b.inside = append(b.inside, b.run)
		slices.Sort(b.inside)
	}
	return b.run, api.OK
}

// P20.8.
func (b *book) due() bool {
	return b.calls() && b.x.Tasks[b.run].Full && b.greatest() > b.priority(task(b.run))
}

func (b *book) preempt() api.Errno {
	if !b.calls() {
		return api.ErrState
	}
	b.leaving = api.LeavePreempt
	return api.OK
}

// P20.9.
func (b *book) look() api.CoreLook {
	l := api.CoreLook{Leaving: b.leaving, Preempted: slices.Clone(b.aside)}
	for n := range b.x.Tasks {
		s, _ := b.state(n)
		l.Tasks = append(l.Tasks, api.TaskLook{State: s, Priority: b.priority(task(n)), Active: b.active[n], Set: b.set[n], Waits: b.waits[n], Held: b.held(task(n)), Internal: slices.Contains(b.inside, n)})
	}
	for _, r := range b.x.Rings {
		var ring []int
		for _, n := range b.joined {
			if b.base(n) == r.Priority {
				ring = append(ring, n)
			}
		}
		l.Rings = append(l.Rings, ring)
	}
	return l
}

// plain are a look's lists with nil for such as are empty.
func plain(l api.CoreLook) api.CoreLook {
	l.Tasks, l.Rings = slices.Clone(l.Tasks), slices.Clone(l.Rings)
	for i := range l.Tasks {
		l.Tasks[i].Held = append([]int(nil), l.Tasks[i].Held...)
	}
	for i := range l.Rings {
		l.Rings[i] = append([]int(nil), l.Rings[i]...)
	}
	l.Preempted = append([]int(nil), l.Preempted...)
	return l
}

// stands: the core tells of all, and of what stands beside it, what the book does.
func stands(t *testing.T, c *core.Core, b *book) {
	t.Helper()
	if l, want := plain(c.Look()), plain(b.look()); !reflect.DeepEqual(l, want) {
		t.Fatalf("Look: %+v, not %+v", l, want)
	}
	for n := -1; n <= len(b.x.Tasks); n++ {
		want, status := b.state(n)
		if s, e := c.State(n); s != want || e != status {
			t.Fatalf("State(%d): %d %d, not %d %d", n, s, e, want, status)
		}
		mask, status := b.getEvent(n)
		eventsOf(t, c, n, mask, status)
		for _, o := range []api.Owner{task(n), isr(n)} {
			if p := c.Priority(o); p != b.priority(o) {
				t.Fatalf("Priority(%v): %d, not %d", o, p, b.priority(o))
			}
			if h := c.Held(o); !slices.Equal(h, b.held(o)) {
				t.Fatalf("Held(%v): %v, not %v", o, h, b.held(o))
			}
		}
	}
	leaves(t, c, b.leaving)
	due(t, c, b.due())
	if n := c.Running(); n != b.run {
		t.Fatalf("Running: %d, not %d", n, b.run)
	}
	if w := c.Waiting(); w != b.isWaiting() {
		t.Fatalf("Waiting: %v", w)
	}
	keepsTheRules(t, c, b.x)
}

// keepsTheRules: P20.11, from the core's own words and the tables.
func keepsTheRules(t *testing.T, c *core.Core, x api.Tables) {
	t.Helper()
	l := c.Look()
	count := make([]int, len(x.Tasks))
	for place, ring := range l.Rings {
		for _, n := range ring {
			count[n]++
			if x.Tasks[n].Ring != place {
				t.Fatalf("%d stands in ring %d: %+v", n, place, l)
			}
		}
		if len(ring) > x.Rings[place].Capacity {
			t.Fatalf("ring %d is too full: %+v", place, l)
		}
	}
	if len(l.Preempted) > x.Depth {
		t.Fatalf("too many are preempted: %+v", l)
	}
	for n, look := range l.Tasks {
		want := look.Active
		if look.State == api.Running || look.State == api.Waiting || slices.Contains(l.Preempted, n) {
			want--
		}
		if count[n] != want || look.State == api.Waiting && count[n] != 0 {
			t.Fatalf("%d stands %d times in its ring, not %d: %+v", n, count[n], want, l)
		}
		if look.State == api.Waiting && look.Set&look.Waits != 0 {
			t.Fatalf("%d waits for what is set: %+v", n, l)
		}
	}
}
