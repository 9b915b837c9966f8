package lock

import "tappet/api"

// Close shuts interrupts out (P19.4).
func (l *Lock) Close() api.Errno { return l.shut(true) }

// Open ends that (P19.4).
func (l *Lock) Open() api.Errno { return l.shut(false) }

func (l *Lock) shut(shut bool) api.Errno {
	if l.none() {
		return api.ErrNil
	}
	l.gate.Shut = shut
	return api.OK
}

// Suspend counts one more (P19.4).
func (l *Lock) Suspend(all bool) api.Errno { return l.count(all, 1) }

// Resume counts one less (P19.4).
func (l *Lock) Resume(all bool) api.Errno { return l.count(all, -1) }

func (l *Lock) count(all bool, more int) api.Errno {
	if l.none() {
		return api.ErrNil
	}
	n := &l.gate.Os
	if all {
		n = &l.gate.All
	}
	*n = min(max(*n+more, 0), api.MaxActivate)
	return api.OK
}

// Gate answers what shuts interrupts out (P19.4).
func (l *Lock) Gate() api.Gate {
	if l.none() {
		return api.Gate{}
	}
	return l.gate
}

// Put sets it (P19.4).
func (l *Lock) Put(g api.Gate) api.Errno {
	if l.none() {
		return api.ErrNil
	}
	if !mayCount(g.All) || !mayCount(g.Os) {
		return api.ErrArg
	}
	l.gate = g
	return api.OK
}

func mayCount(n int) bool { return n >= 0 && n <= api.MaxActivate }

// Takes tells whether an ISR is let through (P19.4).
func (l *Lock) Takes(isr int) bool {
	x, there := l.find(api.Owner{Isr: true, ID: isr})
	if !there || l.gate.Shut || l.gate.All > 0 {
		return false
	}
	return x.category != 2 || l.gate.Os == 0
}
