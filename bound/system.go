package bound

import (
	"tappet/api"
	"tappet/ceil"
)

// system is a configuration that may be, with figures that may be, and its ceilings.
type system struct {
	config  api.Config
	figures api.Figures
	ceils   api.Ceils
}

// look answers the error of Check; without one, what to reckon with.
func look(c api.Config, f api.Figures) (system, api.Errno) {
	if e := Check(c, f); e != api.OK {
		return system{}, e
	}
	ceils, _ := ceil.Reckon(c) // layer 8 refuses nothing that layer 7 takes
	return system{c, f, ceils}, api.OK
}

// lookAt is look for those who ask about one task.
func lookAt(c api.Config, f api.Figures, task int) (system, api.Errno) {
	s, e := look(c, f)
	if e == api.OK && (task < 0 || task >= len(c.Tasks)) {
		return system{}, api.ErrArg
	}
	return s, e
}

// reply is all that is reckoned of a task.
func (s system) reply(task int, limit uint64) api.Reply {
	blocked := s.blocked(task)
	worst, meets := worstTime(s.figures.Work[task]+blocked, s.rivals(task), limit)
	return api.Reply{Blocked: blocked, Worst: worst, Meets: meets}
}

// blocked is the longest time for which a task of lower priority keeps this one from running: for all its work, if it runs at this one's priority or above even while it has taken nothing by a call (layer 8's Running counts internal resources, and that one is not preempted), and for its sections of such a ceiling.
func (s system) blocked(task int) uint64 {
	priority := s.config.Tasks[task].Priority
	var longest uint64
	for id, t := range s.config.Tasks {
		if t.Priority < priority && s.ceils.Running[id] >= priority {
			longest = max(longest, s.figures.Work[id])
		}
	}
	for _, x := range s.figures.Sections {
		if s.config.Tasks[x.Task].Priority < priority && s.ceiling(x.Resource) >= priority {
			longest = max(longest, x.Length)
		}
	}
	return longest
}

// ceiling is that of a resource, or of RES_SCHEDULER behind them.
func (s system) ceiling(resource int) int {
	if resource == len(s.ceils.Resources) {
		return s.ceils.Scheduler
	}
	return s.ceils.Resources[resource]
}
