package kernel

import (
	"tappet/api"
	"tappet/level"
)

// context is one that has begun and not ended.
type context struct {
	frame api.Frame
	gate  api.Gate // what shut interrupts out when it began
}

// top is the context that runs; a zero one, if none does.
func (k *Kernel) top() context {
	c, _ := k.frames.Top()
	return c
}

func (k *Kernel) isAnyOnTop() bool { return k.top().frame != api.Frame{} }

// isOpen: interrupts are neither shut nor suspended.
func (k *Kernel) isOpen() bool { return k.core.Gate() == api.Gate{} }

// push lays a context on top. There is room: each ISR lies there once at most, and beside the task there are at most a hook, a callback above it, and the error hook above that.
func (k *Kernel) push(f api.Frame) {
	k.frames.Push(context{frame: f, gate: k.core.Gate()})
}

// begin begins a routine.
func (k *Kernel) begin(f api.Frame) {
	k.push(f)
	k.begun = append(k.begun, f)
}

// beginHook begins the routine of a hook, if there is one.
func (k *Kernel) beginHook(hook int, f api.Frame) {
	if k.has(hook) {
		k.begin(f)
	}
}

// level is what the context that runs may call.
func (k *Kernel) level() api.Level {
	f := k.top().frame
	category := 0
	if f.Kind == api.FIsr {
		category = k.categories[f.ID]
	}
	return level.Of(f.Kind, category)
}

// fail is an error: it waits for its routine, unless one of the error hook is there (M2).
func (k *Kernel) fail(status api.Status, service int, param uint32) {
	for c := range k.frames.All() {
		if c.frame.Kind == api.FError {
			return
		}
	}
	k.errors.join(api.Frame{Kind: api.FError, Status: status, Service: service, Param: param})
}
