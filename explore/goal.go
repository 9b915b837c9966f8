package explore

import "tappet/api"

// Meets tells whether a goal is met (P28.4).
func Meets(g api.Goal, l api.Look, a api.Answer) bool {
	switch g.Kind {
	case api.GoalRing:
		ring, there := at(l.Rings, g.A)
		return there && len(ring) >= g.B
	case api.GoalRun:
		top, there := at(l.Frames, len(l.Frames)-1)
		return there && int(top.Kind) == g.A && top.ID == g.B
	case api.GoalStatus:
		return !a.Idle && int(a.Status) == g.A
	case api.GoalDeep:
		return len(l.Frames) >= g.A
	case api.GoalPreempt:
		return len(l.Preempted) >= g.A
	case api.GoalState:
		task, there := at(l.Tasks, g.A)
		return there && int(task.State) == g.B
	}
	return false
}

// at gives the thing at a place; false: there is no such place.
func at[T any](list []T, place int) (T, bool) {
	if place < 0 || place >= len(list) {
		var none T
		return none, false
	}
	return list[place], true
}
