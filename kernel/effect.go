package kernel

import "tappet/api"

// Effect does what a layer above brings (P22.8).
func (k *Kernel) Effect(x api.Effect) api.Answer {
	if k.none() {
		return idle()
	}
	return k.settled(k.bring(x))
}

func (k *Kernel) bring(x api.Effect) api.Answer {
	if !k.isAnyOnTop() {
		return idle()
	}
	if x.Status != api.EOK {
		k.fail(x.Status, x.Service, x.Param)
	}
	for _, d := range x.Deeds {
		if k.mayAct(d.Action) {
			k.act(d.Action, d.Callback)
		}
	}
	return api.Answer{Status: x.Status}
}

// mayAct tells whether an alarm of these tables could have that action, by what layer 9 asks of one.
func (k *Kernel) mayAct(a api.ActionRow) bool {
	switch a.Kind {
	case api.ActTask:
		return k.isTask(a.Task) && a.Mask == 0
	case api.ActEvent:
		return k.isTask(a.Task) && a.Mask != 0 && a.Mask&^k.tasks[a.Task].mask == 0
	case api.ActCallback:
		return a.Task == 0 && a.Mask == 0
	}
	return false
}

func (k *Kernel) isTask(task int) bool { return task >= 0 && task < len(k.tasks) }

// act does an action, as M4 says of alarms; a callback has that number.
func (k *Kernel) act(a api.ActionRow, callback int) {
	switch a.Kind {
	case api.ActTask:
		if s := k.core.Activate(a.Task); s != api.EOK {
			k.fail(s, api.SvActivateTask, uint32(a.Task))
		}
	case api.ActEvent:
		if s := k.core.SetEvent(a.Task, a.Mask); s != api.EOK {
			k.fail(s, api.SvSetEvent, uint32(a.Task))
		}
	case api.ActCallback:
		if !k.callbacks.has(callback) {
			k.callbacks.join(callback)
		}
	}
}
