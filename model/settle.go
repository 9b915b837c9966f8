package model

import "tappet/api"

// outcome is what came of a rule.
type outcome int

const (
	passed outcome = iota // it does not apply
	did                   // it did something
	ended                 // the settling ends
)

// rule is one of the rules of settling (M14).
type rule struct {
	try func(m *Model) outcome
}

// endIf is a rule by which the settling ends.
func endIf(applies func(m *Model) bool) rule {
	return when(applies, func(*Model) outcome { return ended })
}

// doIf is a rule by which something is done.
func doIf(applies func(m *Model) bool, deed func(m *Model)) rule {
	return when(applies, func(m *Model) outcome {
		deed(m)
		return did
	})
}

func when(applies func(m *Model) bool, then func(m *Model) outcome) rule {
	return rule{try: func(m *Model) outcome {
		if !applies(m) {
			return passed
		}
		return then(m)
	}}
}

// rules are M14's, in its order; the last of them, that it ends, is that none applies.
func rules() []rule {
	return []rule{
		endIf(func(m *Model) bool { return m.top().frame.Kind == api.FError }),
		doIf(func(m *Model) bool { return len(m.errors) > 0 }, (*Model).beginError),
		endIf(func(m *Model) bool { return m.top().frame.Kind == api.FCallback }),
		doIf(func(m *Model) bool { return len(m.callbacks) > 0 }, (*Model).beginCallback),
		endIf(func(m *Model) bool { return isRoutine(m.top().frame.Kind) || !m.isUp() }),
		doIf(func(m *Model) bool { return m.leaving != api.LeaveNone }, (*Model).carryOut),
		doIf((*Model).isAnyToTake, (*Model).takeIsr),
		endIf(func(m *Model) bool { return m.top().frame.Kind == api.FIsr }),
		doIf((*Model).isAnyToRun, (*Model).runBest),
		doIf((*Model).isToBePreempted, func(m *Model) { m.leave(api.LeavePreempt) }),
	}
}

// settle goes through the rules from their beginning again and again, as long as one did something.
func (m *Model) settle() {
	for m.tryRules() == did {
	}
}

// tryRules tells what came of the first rule that applies.
func (m *Model) tryRules() outcome {
	for _, r := range m.rules {
		if o := r.try(m); o != passed {
			return o
		}
	}
	return ended
}

func (m *Model) beginError() {
	f := m.errors[0]
	m.errors = m.errors[1:]
	m.beginHook(m.c.OS.Error, f)
}

func (m *Model) beginCallback() {
	alarm := m.callbacks[0]
	m.callbacks = m.callbacks[1:]
	m.begin(api.Frame{Kind: api.FCallback, ID: alarm})
}

// toTake is the ISR of greatest priority of those that can be taken; false: there is none.
func (m *Model) toTake() (int, bool) {
	best, some := 0, false
	for id, isr := range m.c.Isrs {
		if m.requested[id] && m.canBeTaken(isr) && (!some || isr.Priority > m.c.Isrs[best].Priority) {
			best, some = id, true
		}
	}
	return best, some
}

func (m *Model) canBeTaken(isr api.Isr) bool {
	return !m.gate.Shut && m.gate.All == 0 && (isr.Category != 2 || m.gate.Os == 0) && isr.Priority > m.topPriority()
}

func (m *Model) isAnyToTake() bool {
	_, some := m.toTake()
	return some
}

func (m *Model) takeIsr() {
	id, _ := m.toTake()
	m.requested[id] = false
	m.push(api.Frame{Kind: api.FIsr, ID: id})
}

func (m *Model) isAnyToRun() bool {
	_, runs := m.running()
	return !runs && (m.ready() >= 0 || len(m.preempted) > 0)
}

func (m *Model) isToBePreempted() bool {
	id, runs := m.running()
	return runs && m.c.Tasks[id].Full && m.isOpen() && m.ready() > m.priority(id)
}
