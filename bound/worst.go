package bound

// rival is work that comes again and again, and is done ahead of a task's own.
type rival struct{ work, every uint64 }

// rivals are those of a task: the other tasks whose priority is not below its own, and all ISRs.
func (s system) rivals(task int) []rival {
	var l []rival
	for id, t := range s.config.Tasks {
		if id != task && t.Priority >= s.config.Tasks[task].Priority {
			l = append(l, rival{s.figures.Work[id], s.figures.Period[id]})
		}
	}
	for id, work := range s.figures.IsrWork {
		l = append(l, rival{work, s.figures.IsrEvery[id]})
	}
	return l
}

// worstTime is the least time, at most a limit, that is just what is to be done within it: what is the task's own, and what rivals bring. In a longer time there is never less to be done, so that going from one time to what is to be done within it goes past no such time.
func worstTime(own uint64, rivals []rival, limit uint64) (uint64, bool) {
	for time := own; time <= limit; {
		need := needed(own, rivals, time, limit)
		if need == time {
			return time, true
		}
		time = need
	}
	return 0, false
}

// needed is what is to be done within a time that is at most the limit; the sum stops just above the limit, so that it can't wrap.
func needed(own uint64, rivals []rival, time, limit uint64) uint64 {
	sum := own
	lay := func(work uint64) { sum = min(sum+work, limit+1) }
	for _, r := range rivals {
		lay((time + r.every - 1) / r.every * r.work)
	}
	return sum
}
