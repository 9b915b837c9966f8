package clock

import "math"

// never is more ticks than any alarm has left.
const never uint64 = math.MaxUint64

// setting is what an alarm is set to; zero, it is not set.
type setting struct {
	left  uint64 // ticks
	cycle uint32
}

func (s *setting) none() bool { return s.left == 0 }

// pass lets so many ticks go by, of a set alarm no more than it has left; true: it expires.
func (s *setting) pass(ticks uint64) bool {
	if s.none() {
		return false
	}
	s.left -= ticks
	if s.left > 0 {
		return false
	}
	s.left = uint64(s.cycle) // without a cycle it is set no more by that
	return true
}

// pass lets so many ticks go by, no more than soonest tells; told are the alarms that expire, rising.
func pass(alarms []setting, ticks uint64) (told []int) {
	for n := range alarms {
		if alarms[n].pass(ticks) {
			told = append(told, n)
		}
	}
	return told
}

// soonest tells in how many ticks the next expiring comes; never, if no alarm is set.
func soonest(alarms []setting) uint64 {
	next := never
	for _, s := range alarms {
		if !s.none() {
			next = min(next, s.left)
		}
	}
	return next
}

// copied are the same settings in memory of their own.
func copied(alarms []setting) []setting {
	l := make([]setting, len(alarms))
	copy(l, alarms)
	return l
}
