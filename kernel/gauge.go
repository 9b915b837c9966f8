package kernel

import (
	"slices"

	"tappet/api"
	"tappet/core"
	"tappet/stack"
)

// gauge is how many things there are, and were at most.
type gauge struct{ now, high int }

func (g *gauge) add(n int) {
	g.now += n
	g.high = max(g.high, g.now)
}

// gauged is a core of which is counted along how many stand in its rings and are preempted (P22.5): it tells that itself only with all else, which is too much to be asked behind each thing.
type gauged struct {
	*core.Core
	places    []int // of each task its ring's; never written again
	rings     []gauge
	preempted *stack.Stack[int]
}

func newGauged(c *core.Core, t api.Tables) *gauged {
	preempted, _ := stack.New[int](t.Depth) // as deep as the core's own
	g := &gauged{Core: c, rings: make([]gauge, len(t.Rings)), preempted: preempted}
	for _, row := range t.Tasks {
		g.places = append(g.places, row.Ring)
	}
	return g
}

func (g *gauged) copy() *gauged {
	return &gauged{Core: g.Core.Copy(), places: g.places, rings: slices.Clone(g.rings), preempted: g.preempted.Copy()}
}

// count: a task's number joins its ring (1), or is taken off (-1).
func (g *gauged) count(task int, n int) { g.rings[g.places[task]].add(n) }

// joinIfReady counts a task that waited, and may have joined its ring.
func (g *gauged) joinIfReady(task int) {
	if state, _ := g.State(task); state == api.Ready {
		g.count(task, 1)
	}
}

// Activate activates a task.
func (g *gauged) Activate(task int) api.Status {
	s := g.Core.Activate(task)
	if s == api.EOK {
		g.count(task, 1)
	}
	return s
}

// Chain ends the running task and activates another one; it itself joins its ring only when that is carried out.
func (g *gauged) Chain(task int) api.Status {
	s := g.Core.Chain(task)
	if s == api.EOK && task != g.Running() {
		g.count(task, 1)
	}
	return s
}

// SetEvent sets events of a task, which may end its waiting.
func (g *gauged) SetEvent(task int, mask uint32) api.Status {
	state, _ := g.State(task)
	s := g.Core.SetEvent(task, mask)
	if state == api.Waiting {
		g.joinIfReady(task)
	}
	return s
}

// Carry carries the leaving out.
func (g *gauged) Carry() {
	how := g.Leaving()
	task, _ := g.Core.Carry()
	switch how {
	case api.LeaveAgain:
		g.count(task, 1)
	case api.LeaveWait:
		g.joinIfReady(task)
	case api.LeavePreempt, api.LeaveYield:
		g.preempted.Push(task)
	}
}

// Run makes the best run. One that is preempted is not taken off a ring, however often it stands there: the top of the preempted comes first, and has no lesser priority.
func (g *gauged) Run() (int, api.Errno) {
	task, e := g.Core.Run()
	if e != api.OK {
		return task, e
	}
	if top, some := g.preempted.Top(); some && top == task {
		g.preempted.Pop()
	} else {
		g.count(task, -1)
	}
	return task, api.OK
}

// Reset makes all as at first, but the marks.
func (g *gauged) Reset() {
	g.Core.Reset()
	g.preempted.Cut(0)
	for place := range g.rings {
		g.rings[place].now = 0
	}
}

// marks are the greatest numbers of each ring.
func (g *gauged) marks() []int {
	l := make([]int, len(g.rings))
	for place, r := range g.rings {
		l[place] = r.high
	}
	return l
}
