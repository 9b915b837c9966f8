package audit

import (
	"slices"

	"tappet/api"
)

// isScheduler: it is RES_SCHEDULER, and there is one.
func (b *book) isScheduler(resource int) bool {
	return b.config.OS.Schedule && resource == len(b.config.Resources)
}

func (b *book) isResource(id int) bool {
	return isID(id, len(b.config.Resources)) || b.isScheduler(id)
}

func (b *book) isHeld(resource int) bool {
	for _, l := range b.held {
		if slices.Contains(l, resource) {
			return true
		}
	}
	return false
}

// mayHold: a resource may be taken by who calls, a task or an ISR.
func (b *book) mayHold(resource int) bool {
	priority, own := b.base(b.caller), b.own(b.caller)
	switch {
	case b.isScheduler(resource):
		return isTask(b.caller) && priority <= b.ceils.Scheduler
	case !slices.Contains(own, resource):
		return false
	}
	return b.config.Resources[resource].Kind != api.ResInternal && priority <= b.ceils.Resources[resource]
}

// base is the base priority of a task, or of an ISR.
func (b *book) base(o api.Owner) int {
	if o.Isr {
		return b.config.Isrs[o.ID].Priority
	}
	return b.config.Tasks[o.ID].Priority
}

func (b *book) own(o api.Owner) []int {
	if o.Isr {
		return b.config.Isrs[o.ID].Resources
	}
	return b.config.Tasks[o.ID].Resources
}

func (b *book) get(s api.Step) {
	if id := int(s.A); b.caller != nobody && b.isResource(id) {
		b.held[b.caller] = append(b.held[b.caller], id)
	}
}

// release gives a resource back as often as it was taken.
func (b *book) release(s api.Step) {
	left := slices.DeleteFunc(b.held[b.caller], func(id int) bool { return id == int(s.A) })
	if len(left) == 0 {
		delete(b.held, b.caller)
		return
	}
	b.held[b.caller] = left
}
