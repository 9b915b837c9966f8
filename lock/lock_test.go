package lock_test

import (
	"slices"
	"testing"

	"tappet/api"
	"tappet/table"
)

// P19.2: owners that there are not; a task's number is none of an ISR, nor an ISR's of a task.
func TestNoSuchOwner(t *testing.T) {
	x := ordinary()
	l, b := made(t, x), newBook(x)
	gets(t, l, task(0), 1, api.EOK)
	b.get(task(0), 1)
	strange := []api.Owner{task(len(x.Tasks)), isr(len(x.Isrs)), isr(len(x.Tasks) - 1)}
	for _, n := range beyond {
		strange = append(strange, task(n), isr(n))
	}
	for _, o := range strange {
		for r := -1; r <= len(x.Resources); r++ {
			gets(t, l, o, r, api.EID)
			releases(t, l, o, r, api.EID)
		}
		drops(t, l, o, -1)
		holds(t, l, o)
		runsAt(t, l, o, -1)
	}
	stands(t, l, b)
}

// P19.2: resources that there are not, and internal ones; this is said ahead of all else.
func TestNoSuchResource(t *testing.T) {
	x := ordinary()
	l, b := made(t, x), newBook(x)
	l.Get(task(1), 1)
	b.get(task(1), 1)
	l.Enter(1)
	b.enter(1)
	for _, r := range append([]int{2, len(x.Resources)}, beyond...) {
		for _, o := range owners(x) {
			gets(t, l, o, r, api.EID)
			releases(t, l, o, r, api.EID)
		}
		free(t, l, r)
	}
	stands(t, l, b)
}

// P19.2: each owner gets its own, and nothing else.
func TestOwn(t *testing.T) {
	own := map[api.Owner][]int{
		task(0): {0, 1, 6}, task(1): {0, 1, 3, 6}, task(2): {1, 6}, task(3): {6}, task(4): {0, 1, 6},
		isr(0): {0, 5}, isr(1): nil, isr(2): {5}, isr(3): nil,
	}
	for o, mine := range own {
		for _, r := range []int{0, 1, 3, 4, 5, 6} {
			l := made(t, ordinary())
			if slices.Contains(mine, r) {
				gets(t, l, o, r, api.EOK)
				heldBy(t, l, r, o)
				holds(t, l, o, r)
			} else {
				gets(t, l, o, r, api.EAccess)
				free(t, l, r)
				holds(t, l, o)
				releases(t, l, o, r, api.ENoFunc)
			}
		}
	}
}

// P19.2: what somebody holds nobody gets, who holds it neither; a task and an ISR of one number are two.
func TestGetHeld(t *testing.T) {
	l := made(t, ordinary())
	gets(t, l, task(0), 0, api.EOK)
	for _, o := range []api.Owner{task(0), task(1), task(4), isr(0)} {
		gets(t, l, o, 0, api.EAccess)
		heldBy(t, l, 0, task(0))
	}
	holds(t, l, task(0), 0)
	holds(t, l, isr(0))
	releases(t, l, isr(0), 0, api.ENoFunc)
	releases(t, l, task(1), 0, api.ENoFunc)
	heldBy(t, l, 0, task(0))
	releases(t, l, task(0), 0, api.EOK)
	free(t, l, 0)
	gets(t, l, isr(0), 0, api.EOK)
	heldBy(t, l, 0, isr(0))
	gets(t, l, task(0), 0, api.EAccess)
	releases(t, l, task(0), 0, api.ENoFunc)
}

// P19.2: resources are given back in the turned order of taking, whatever their numbers and ceilings.
func TestReleaseOrder(t *testing.T) {
	for _, order := range [][]int{{0, 1, 3, 6}, {6, 3, 1, 0}, {3, 0, 6, 1}, {1, 6, 0, 3}} {
		l := made(t, ordinary())
		releases(t, l, task(1), order[0], api.ENoFunc)
		for i, r := range order {
			gets(t, l, task(1), r, api.EOK)
			holds(t, l, task(1), order[:i+1]...)
		}
		for i := len(order) - 1; i >= 0; i-- {
			for _, r := range []int{0, 1, 3, 4, 5, 6} {
				if r != order[i] {
					releases(t, l, task(1), r, api.ENoFunc)
				}
			}
			holds(t, l, task(1), order[:i+1]...)
			releases(t, l, task(1), order[i], api.EOK)
			releases(t, l, task(1), order[i], api.ENoFunc)
			holds(t, l, task(1), order[:i]...)
			free(t, l, order[i])
		}
		gets(t, l, task(4), 0, api.EOK)
	}
}

// P19.2: Drop tells what was taken last of what is still held, and gives back what that owner holds alone.
func TestDrop(t *testing.T) {
	l := made(t, ordinary())
	drops(t, l, task(1), -1)
	gets(t, l, task(1), 3, api.EOK)
	gets(t, l, task(1), 6, api.EOK)
	gets(t, l, task(1), 1, api.EOK)
	gets(t, l, isr(0), 0, api.EOK)
	gets(t, l, isr(2), 5, api.EOK)
	releases(t, l, task(1), 1, api.EOK)
	drops(t, l, task(0), -1)
	drops(t, l, isr(1), -1)
	drops(t, l, task(1), 6)
	holds(t, l, task(1))
	free(t, l, 3)
	free(t, l, 6)
	runsAt(t, l, task(1), 1)
	heldBy(t, l, 0, isr(0))
	heldBy(t, l, 5, isr(2))
	drops(t, l, task(1), -1)
	gets(t, l, task(2), 6, api.EOK)
	drops(t, l, isr(0), 0)
	gets(t, l, task(1), 0, api.EOK)
	gets(t, l, task(1), 3, api.EOK)
	drops(t, l, task(1), 3)
	heldBy(t, l, 6, task(2))
	heldBy(t, l, 5, isr(2))
}

// P19.3: ceilings raise the current priority; one taken later that is lower does not take it down.
func TestPriority(t *testing.T) {
	l := made(t, ordinary())
	for id, p := range []int{0, 1, 5, 4, 4, -1} {
		runsAt(t, l, task(id), p)
	}
	for id, p := range []int{70, 90, 80, 64, -1} {
		runsAt(t, l, isr(id), p)
	}
	for _, x := range []struct{ r, p int }{{3, 1}, {6, 5}, {0, 70}, {1, 70}} {
		gets(t, l, task(1), x.r, api.EOK)
		runsAt(t, l, task(1), x.p)
	}
	for _, x := range []struct{ r, p int }{{1, 70}, {0, 5}, {6, 1}, {3, 1}} {
		releases(t, l, task(1), x.r, api.EOK)
		runsAt(t, l, task(1), x.p)
	}
	gets(t, l, isr(0), 0, api.EOK)
	runsAt(t, l, isr(0), 70)
	gets(t, l, isr(0), 5, api.EOK)
	runsAt(t, l, isr(0), 80)
	runsAt(t, l, task(0), 0)
	drops(t, l, isr(0), 5)
	runsAt(t, l, isr(0), 70)
}

// P19.3: a task has its internal resource from Enter to Leave, however often they are called; one without any never has.
func TestInternal(t *testing.T) {
	x := ordinary()
	l := made(t, x)
	for id, inside := range []struct {
		has bool
		p   int
	}{{false, 0}, {true, 4}, {false, 5}, {true, 4}, {true, 127}} {
		base := x.Tasks[id].Priority
		answers(t, "Leave", l.Leave(id), api.OK)
		has(t, l, id, false)
		runsAt(t, l, task(id), base)
		for range 2 {
			answers(t, "Enter", l.Enter(id), api.OK)
			has(t, l, id, inside.has)
			runsAt(t, l, task(id), inside.p)
		}
		for other := range x.Tasks {
			has(t, l, other, other == id && inside.has)
		}
		for range 2 {
			answers(t, "Leave", l.Leave(id), api.OK)
			has(t, l, id, false)
			runsAt(t, l, task(id), base)
		}
	}
}

// P19.3: several tasks have one internal resource each; there is no holder of it, and ISRs have none.
func TestInternalOfSeveral(t *testing.T) {
	x := ordinary()
	l, b := made(t, x), newBook(x)
	for _, id := range []int{1, 4, 3} {
		l.Enter(id)
		b.enter(id)
		stands(t, l, b)
	}
	free(t, l, 2)
	runsAt(t, l, isr(1), 90)
	l.Leave(4)
	b.leave(4)
	stands(t, l, b)
}

// P19.3: tasks that there are not.
func TestInternalOfNoTask(t *testing.T) {
	x := ordinary()
	l, b := made(t, x), newBook(x)
	l.Enter(1)
	b.enter(1)
	for _, n := range append([]int{len(x.Tasks)}, beyond...) {
		answers(t, "Enter", l.Enter(n), api.ErrArg)
		answers(t, "Leave", l.Leave(n), api.ErrArg)
		has(t, l, n, false)
	}
	stands(t, l, b)
}

// P19.3: what a task holds and its internal resource raise its priority side by side; Drop leaves the internal one.
func TestInternalAndHeld(t *testing.T) {
	l := made(t, ordinary())
	l.Enter(1)
	gets(t, l, task(1), 3, api.EOK)
	runsAt(t, l, task(1), 4)
	gets(t, l, task(1), 1, api.EOK)
	runsAt(t, l, task(1), 5)
	l.Leave(1)
	runsAt(t, l, task(1), 5)
	l.Enter(1)
	drops(t, l, task(1), 1)
	has(t, l, 1, true)
	runsAt(t, l, task(1), 4)
	drops(t, l, task(1), -1)
	holds(t, l, task(1))
}

// P19.2: resources that are one by links are held each by itself, as M10 says it of resources.
func TestLinked(t *testing.T) {
	c := api.Config{
		CPU: "c", OS: api.Os{Name: "o", Schedule: true}, Modes: []string{"m"},
		Resources: []api.Resource{{Name: "r", Kind: api.ResStandard}, {Name: "s", Kind: api.ResLinked, Link: 0}, {Name: "i", Kind: api.ResInternal}},
		Tasks: []api.Task{
			{Name: "a", Priority: 1, Activation: 1, Resources: []int{0, 1, 2}},
			{Name: "b", Priority: 3, Activation: 1, Resources: []int{1, 2}},
		},
	}
	x, e := table.Make(c)
	answers(t, "Make", e, api.OK)
	l := made(t, x)
	gets(t, l, task(0), 0, api.EOK)
	gets(t, l, task(0), 1, api.EOK)
	gets(t, l, task(0), 3, api.EOK)
	gets(t, l, task(0), 4, api.EID)
	holds(t, l, task(0), 0, 1, 3)
	runsAt(t, l, task(0), 3)
	drops(t, l, task(0), 3)
	l.Enter(0)
	runsAt(t, l, task(0), 3)
	gets(t, l, task(1), 0, api.EAccess)
	gets(t, l, task(1), 1, api.EOK)
}

// P19.5: behind Reset all is as at first, and the rows are as they were.
func TestReset(t *testing.T) {
	x := ordinary()
	l := made(t, x)
	for range 3 {
		gets(t, l, task(1), 1, api.EOK)
		gets(t, l, task(1), 0, api.EOK)
		gets(t, l, isr(2), 5, api.EOK)
		l.Enter(1)
		l.Enter(4)
		l.Close()
		l.Suspend(true)
		l.Suspend(false)
		for range 2 {
			answers(t, "Reset", l.Reset(), api.OK)
			stands(t, l, newBook(x))
		}
		releases(t, l, task(1), 0, api.ENoFunc)
		drops(t, l, isr(2), -1)
	}
}
