package audit

import (
	"slices"

	"tappet/api"
)

func (b *book) find(kind api.FindingKind, id int) {
	b.found(api.Finding{Kind: kind, Entry: b.entry, ID: id})
}

// examine finds what is wrong with a step that was not idle (P26.2, 1 to 3).
func (b *book) examine(s api.Step, a api.Answer) {
	switch {
	case s.Kind == api.STick && a.Status == api.EOK:
		b.examineTick(s.ID, a.Expired)
	case s.Kind != api.SCall:
	case s.Service == api.SvActivateTask, s.Service == api.SvChainTask && isTask(b.caller) && !b.isCaller(int(s.A)):
		b.examineStart(int(s.A), a.Status)
	case a.Status != api.EOK:
	case s.Service == api.SvGetResource && b.caller != nobody:
		b.examineGet(int(s.A))
	case s.Service == api.SvReleaseResource:
		b.examineRelease(int(s.A))
	}
}

// examineStart: a start is taken just if the task has fewer activations than it may have.
func (b *book) examineStart(id int, status api.Status) {
	if !isID(id, len(b.tasks)) {
		return
	}
	if free := b.isFree(id); status == api.EOK && !free || status == api.ELimit && free {
		b.find(api.FindLimit, id)
	}
}

func (b *book) examineGet(resource int) {
	if b.isHeld(resource) {
		b.find(api.FindHeld, resource)
	}
	if !b.mayHold(resource) {
		b.find(api.FindCeiling, resource)
	}
}

// examineRelease: what was taken last is given back, and by nobody who holds nothing.
func (b *book) examineRelease(resource int) {
	held := b.held[b.caller]
	if last := len(held) - 1; last < 0 || held[last] != resource {
		b.find(api.FindOrder, resource)
	}
}

// examineTick: those alarms expire that are due, each once.
func (b *book) examineTick(counter int, expired []int) {
	if !isID(counter, len(b.counters)) {
		return
	}
	due := b.due(counter)
	for id, is := range due {
		if is && !slices.Contains(expired, id) {
			b.find(api.FindLate, id)
		}
	}
	for _, id := range expired {
		if !isID(id, len(due)) || !due[id] {
			b.find(api.FindEarly, id)
			continue
		}
		due[id] = false // told a second time, it was not
	}
}
