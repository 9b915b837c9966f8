package audit

import (
	"slices"

	"tappet/api"
)

// isFree: a task has fewer activations than its limit.
func (b *book) isFree(id int) bool { return b.tasks[id].active < b.config.Tasks[id].Activation }

func (b *book) ask(id int) {
	b.tasks[id].active++
	b.openWindow(id)
}

// askAll asks the tasks that start in a mode.
func (b *book) askAll(mode int) {
	for id, t := range b.config.Tasks {
		if slices.Contains(t.Auto, mode) {
			b.ask(id)
		}
	}
}

// act is an action of an alarm, or of a message: of those that start a task the limit stops one that is one too many.
func (b *book) act(a api.Action) {
	if a.Kind == api.ActTask && b.isFree(a.Task) {
		b.ask(a.Task)
	}
}

func (b *book) activate(s api.Step) {
	if id := int(s.A); isID(id, len(b.tasks)) {
		b.ask(id)
	}
}

func (b *book) terminate(api.Step) {
	if isTask(b.caller) {
		b.leave(false)
	}
}

func (b *book) chain(s api.Step) {
	id := int(s.A)
	switch {
	case !isTask(b.caller) || !isID(id, len(b.tasks)):
	case b.isCaller(id):
		b.leave(true)
		b.openWindow(id)
	default:
		b.ask(id)
		b.leave(false)
	}
}

// isCaller: it is this task that calls.
func (b *book) isCaller(id int) bool { return b.caller == api.Owner{ID: id} }

// leave: the task that calls ends.
func (b *book) leave(again bool) {
	b.leavings = append(b.leavings, leaving{task: b.caller.ID, again: again})
}

// endBody: the body of who calls has ended.
func (b *book) endBody() {
	delete(b.held, b.caller)
	if isTask(b.caller) {
		b.leave(false)
	}
}

// carryOut carries out all leavings.
func (b *book) carryOut() {
	for _, l := range b.leavings {
		t := &b.tasks[l.task]
		t.inside = false
		if !l.again {
			t.active = max(t.active-1, 0)
		}
	}
	b.leavings = nil
}
