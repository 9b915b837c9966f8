package model

import (
	"slices"

	"tappet/api"
)

// task is how a task stands.
type task struct {
	state    api.TaskState
	active   int // activations
	set      uint32
	waits    uint32
	held     []int // in the order of taking
	internal bool  // it has its internal resource
}

// context is one that has begun and not ended.
type context struct {
	frame api.Frame
	gate  api.Gate // what shut interrupts out when it began
}

// state is what a machine changes, as DOC.md tells it in 'Its state'.
type state struct {
	phase     api.Phase
	mode      int
	tasks     []task
	rings     [][]int // by base priority
	preempted []int   // from the bottom
	frames    []context
	held      [][]int // by ISRs
	requested []bool
	gate      api.Gate
	counters  []uint32
	alarms    []api.AlarmLook
	errors    []api.Frame // that wait, as their routines will be begun
	callbacks []int       // that wait
	leaving   api.LeaveKind
}

// first is how a machine stands at first.
func (p *plan) first() *state {
	s := &state{
		phase:     api.Off,
		tasks:     make([]task, len(p.c.Tasks)),
		rings:     make([][]int, api.MaxPriority+1),
		held:      make([][]int, len(p.c.Isrs)),
		requested: make([]bool, len(p.c.Isrs)),
		counters:  make([]uint32, len(p.c.Counters)),
		alarms:    make([]api.AlarmLook, len(p.c.Alarms)),
	}
	for i := range s.tasks {
		s.tasks[i].state = api.Suspended
	}
	return s
}

// copied are the same lists in memory of their own.
func copied(lists [][]int) [][]int {
	c := make([][]int, len(lists))
	for i, l := range lists {
		c[i] = slices.Clone(l)
	}
	return c
}

// copy has all its lists anew.
func (s *state) copy() *state {
	c := *s
	c.tasks = make([]task, len(s.tasks))
	copy(c.tasks, s.tasks)
	for i := range c.tasks {
		c.tasks[i].held = slices.Clone(c.tasks[i].held)
	}
	c.rings, c.held = copied(s.rings), copied(s.held)
	c.preempted = slices.Clone(s.preempted)
	c.frames = slices.Clone(s.frames)
	c.requested = slices.Clone(s.requested)
	c.counters = slices.Clone(s.counters)
	c.alarms = slices.Clone(s.alarms)
	c.errors = slices.Clone(s.errors)
	c.callbacks = slices.Clone(s.callbacks)
	return &c
}

// top is the context that runs; a zero one, if none does.
func (s *state) top() context {
	if len(s.frames) == 0 {
		return context{}
	}
	return s.frames[len(s.frames)-1]
}

// running is the running task, at the bottom of the frames; false: there is none.
func (s *state) running() (int, bool) {
	if len(s.frames) == 0 || s.frames[0].frame.Kind != api.FTask {
		return 0, false
	}
	return s.frames[0].frame.ID, true
}

// isOpen: interrupts are neither shut nor suspended.
func (s *state) isOpen() bool { return s.gate == api.Gate{} }

// isUp: the phase is up.
func (s *state) isUp() bool { return s.phase == api.Up }

// isRoutine: a hook, or a callback.
func isRoutine(k api.FrameKind) bool {
	return k != api.FNone && k != api.FTask && k != api.FIsr
}

// push lays a context on top.
func (s *state) push(f api.Frame) { s.frames = append(s.frames, context{frame: f, gate: s.gate}) }

// pop takes the context on top away.
func (s *state) pop() { s.frames = s.frames[:len(s.frames)-1] }

// ready is the greatest priority that is ready in the rings; -1: none is.
func (s *state) ready() int {
	for priority := len(s.rings) - 1; priority >= 0; priority-- {
		if len(s.rings[priority]) > 0 {
			return priority
		}
	}
	return -1
}
