package audit

import (
	"slices"

	"tappet/api"
)

// setAll sets the alarms that start in a mode.
func (b *book) setAll(mode int) {
	for id, a := range b.config.Alarms {
		if slices.Contains(a.Auto, mode) {
			b.alarms[id] = api.AlarmLook{Set: true, Left: a.Time, Cycle: a.Cycle}
		}
	}
}

func (b *book) setRel(s api.Step) {
	if id := int(s.A); isID(id, len(b.alarms)) {
		b.alarms[id] = api.AlarmLook{Set: true, Left: s.B, Cycle: s.C}
	}
}

func (b *book) setAbs(s api.Step) {
	if id := int(s.A); isID(id, len(b.alarms)) {
		counter := b.config.Alarms[id].Counter
		left := until(b.counters[counter], s.B, b.config.Counters[counter].Max)
		b.alarms[id] = api.AlarmLook{Set: true, Left: left, Cycle: s.C}
	}
}

// until is in how many ticks, one at least, a counter's value is another one; one above the greatest counts as that.
func until(value, then, most uint32) uint32 {
	then = min(then, most)
	if then > value {
		return then - value
	}
	return most - value + then + 1
}

func (b *book) cancel(s api.Step) {
	if id := int(s.A); isID(id, len(b.alarms)) {
		b.alarms[id] = api.AlarmLook{}
	}
}

// due tells of each alarm whether it expires by the next tick of a counter.
func (b *book) due(counter int) []bool {
	due := make([]bool, len(b.alarms))
	for id, a := range b.alarms {
		due[id] = a.Set && a.Left <= 1 && b.config.Alarms[id].Counter == counter
	}
	return due
}

// tick lets a counter tick, and does what those do of which it is told that they expired.
func (b *book) tick(counter int, expired []int) {
	if !isID(counter, len(b.counters)) {
		return
	}
	for id, is := range b.due(counter) {
		if b.config.Alarms[id].Counter == counter {
			b.alarms[id] = ticked(b.alarms[id], is)
		}
	}
	if b.counters[counter] == b.config.Counters[counter].Max {
		b.counters[counter] = 0
	} else {
		b.counters[counter]++
	}
	for _, id := range expired {
		if isID(id, len(b.alarms)) {
			b.act(b.config.Alarms[id].Action)
		}
	}
}

// ticked is an alarm behind a tick of its counter, by which it was due or not.
func ticked(a api.AlarmLook, due bool) api.AlarmLook {
	switch {
	case !a.Set:
		return a
	case !due:
		a.Left--
	case a.Cycle == 0:
		return api.AlarmLook{}
	default:
		a.Left = a.Cycle
	}
	return a
}
