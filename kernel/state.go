package kernel

import (
	"tappet/api"
	"tappet/core"
	"tappet/stack"
	"tappet/tick"
)

// taskRow is what the kernel itself needs to know of a task: all else is known below.
type taskRow struct {
	auto uint32 // the modes in which it starts, as bits
	mask uint32 // all its events
}

// plan is what a kernel does not change; copies share it.
type plan struct {
	uses       int // which hooks there are, as bits
	modes      int
	tasks      []taskRow
	categories []int           // of the ISRs
	actions    []api.ActionRow // of the alarms
	services   map[int]service
	rules      []rule
	first      *state // how the kernel was made
}

func newPlan(t api.Tables, first *state) *plan {
	p := &plan{uses: t.Uses, modes: t.Modes, services: services(), rules: rules(), first: first}
	for _, row := range t.Tasks {
		p.tasks = append(p.tasks, taskRow{auto: row.Auto, mask: row.Mask})
	}
	for _, row := range t.Isrs {
		p.categories = append(p.categories, row.Category)
	}
	for _, row := range t.Alarms {
		p.actions = append(p.actions, row.Action)
	}
	return p
}

func (p *plan) has(hook int) bool { return p.uses&hook != 0 }

// state is what a kernel changes.
type state struct {
	phase     api.Phase
	mode      int
	core      *gauged
	board     *tick.Board
	frames    *stack.Stack[context]
	errors    *queue[api.Frame] // as their routines will be begun
	callbacks *queue[int]
}

func newState(t api.Tables) (*state, api.Errno) {
	middle, e := core.New(t)
	if e != api.OK {
		return nil, api.ErrKernel
	}
	// Tables that the core takes are refused by none of these.
	board, _ := tick.New(t)
	frames, _ := stack.New[context](t.Frames)
	return &state{
		core:      newGauged(middle, t),
		board:     board,
		frames:    frames,
		errors:    newQueue[api.Frame](t.Errors),
		callbacks: newQueue[int](t.Callbacks),
	}, api.OK
}

func (s *state) copy() *state {
	return &state{
		phase:     s.phase,
		mode:      s.mode,
		core:      s.core.copy(),
		board:     s.board.Copy(),
		frames:    s.frames.Copy(),
		errors:    s.errors.copy(),
		callbacks: s.callbacks.copy(),
	}
}
