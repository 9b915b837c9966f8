package kernel

import "tappet/api"

// holder is a context that can hold resources: a task or an ISR.
type holder interface {
	owner() api.Owner
	// end ends its body (M3); the gate is that of its beginning.
	end(k *Kernel, began api.Gate) api.Status
}

type taskHolder int

type isrHolder int

// holderOf tells who holds resources in a context; false: a routine, which holds none, or no context at all.
func holderOf(f api.Frame) (holder, bool) {
	switch f.Kind {
	case api.FTask:
		return taskHolder(f.ID), true
	case api.FIsr:
		return isrHolder(f.ID), true
	}
	return nil, false
}

// caller is who holds resources in the context that runs; one that layer 19 does not know, if none of the two runs.
func (k *Kernel) caller() api.Owner {
	h, holds := holderOf(k.top().frame)
	if !holds {
		return api.Owner{ID: -1}
	}
	return h.owner()
}

func (t taskHolder) owner() api.Owner { return api.Owner{ID: int(t)} }

func (i isrHolder) owner() api.Owner { return api.Owner{Isr: true, ID: int(i)} }

func (t taskHolder) end(k *Kernel, _ api.Gate) api.Status {
	k.core.Abort()
	k.core.Put(api.Gate{})
	k.fail(api.EMissingEnd, api.SvTerminateTask, 0)
	k.beginToLeave()
	return api.EMissingEnd
}

func (i isrHolder) end(k *Kernel, began api.Gate) api.Status {
	if last, held := k.core.Drop(i.owner()); held {
		k.fail(api.EResource, api.SvReleaseResource, uint32(last))
	}
	if k.core.Gate() != began {
		k.fail(api.EDisabled, 0, 0)
	}
	k.endFrame(began)
	return api.EOK
}

// endFrame takes the top away; interrupts are shut out as when it began.
func (k *Kernel) endFrame(began api.Gate) {
	k.core.Put(began)
	k.frames.Pop()
}

// beginToLeave begins the routine of the post task hook, if the running task leaves now (M7).
func (k *Kernel) beginToLeave() {
	if k.core.Leaving() != api.LeaveNone {
		k.beginHook(api.UsePost, api.Frame{Kind: api.FPost, ID: k.core.Running()})
	}
}
