package audit

import (
	"tappet/api"
	"tappet/ceil"
)

// nobody calls, where the context that calls is no task and no ISR of the configuration.
var nobody = api.Owner{ID: -1}

// task is what the book has of a task.
type task struct {
	active int  // activations
	inside bool // it has run since it was started
}

// leaving is a task that leaves, until that is carried out.
type leaving struct {
	task  int
	again bool // it chained itself: it has no activation less when it has left
}

// book is what is kept of a run, step by step (P26.1).
type book struct {
	config   api.Config
	ceils    api.Ceils
	services map[int]service
	found    func(api.Finding) // it is told what is found

	entry  int // the number of the one that is looked at
	caller api.Owner

	up       bool
	tasks    []task
	leavings []leaving
	held     map[api.Owner][]int // in the order of taking; of who holds nothing there is none
	counters []uint32
	alarms   []api.AlarmLook
	queues   []int // how many values each message has
	open     []int // the places of the windows that are open

	windows []api.Window // all that were opened
}

func newBook(c api.Config, found func(api.Finding)) *book {
	ceils, _ := ceil.Reckon(c) // layer 8 refuses nothing that layer 7 takes
	return &book{
		config:   c,
		ceils:    ceils,
		services: services(),
		found:    found,
		caller:   nobody,
		tasks:    make([]task, len(c.Tasks)),
		held:     map[api.Owner][]int{},
		counters: make([]uint32, len(c.Counters)),
		alarms:   make([]api.AlarmLook, len(c.Alarms)),
		queues:   make([]int, len(c.Messages)),
	}
}

// isID: there is a thing of that number, where there are so many.
func isID(id, many int) bool { return id >= 0 && id < many }

// who is the task or the ISR that a context is.
func (b *book) who(f api.Frame) api.Owner {
	switch {
	case f.Kind == api.FTask && isID(f.ID, len(b.config.Tasks)):
		return api.Owner{ID: f.ID}
	case f.Kind == api.FIsr && isID(f.ID, len(b.config.Isrs)):
		return api.Owner{Isr: true, ID: f.ID}
	}
	return nobody
}

func isTask(o api.Owner) bool { return o != nobody && !o.Isr }

// enter takes the next entry into the book. What is found in its step is found by the book as it stands ahead of it, and so are the windows that it counts for.
func (b *book) enter(s api.Step, a api.Answer) {
	if !a.Idle {
		b.examine(s, a)
	}
	b.count(s, a.Idle)
	if !a.Idle {
		b.do(s, a)
	}
	b.settle(a.Run)
	b.caller = b.who(a.Run)
	b.entry++
}

// do is what a step that was not idle does to the book.
func (b *book) do(s api.Step, a api.Answer) {
	switch {
	case s.Kind == api.SReturn:
		b.endBody()
	case s.Kind == api.SCall:
		b.call(s, a.Status)
	case a.Status != api.EOK:
	case s.Kind == api.SStart:
		b.start(s.ID)
	case s.Kind == api.STick:
		b.tick(s.ID, a.Expired)
	}
}

// settle is what the context that runs behind an entry does to the book.
func (b *book) settle(run api.Frame) {
	switch run.Kind {
	case api.FNone, api.FTask, api.FIsr, api.FPre:
		b.carryOut()
	}
	if o := b.who(run); isTask(o) {
		b.runs(o.ID)
	}
	if b.up && run.Kind == api.FNone && len(b.open) > 0 {
		b.find(api.FindIdle, b.windows[b.open[0]].Task)
	}
}

func (b *book) start(mode int) {
	b.up = true
	clear(b.queues)
	b.askAll(mode)
	b.setAll(mode)
}

// shutdown leaves the counters as they are, and the queues.
func (b *book) shutdown(api.Step) {
	b.up = false
	clear(b.tasks)
	b.leavings = nil
	clear(b.held)
	clear(b.alarms)
	b.open = nil
}
