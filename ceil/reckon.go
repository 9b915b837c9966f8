package ceil

import "tappet/api"

// nobody is what is told as a ceiling, where there is no priority; it may be a priority, too.
const nobody = -1

// top is the greatest of the priorities that came to it; the zero one has none, which no number could say: priorities may be any.
type top struct {
	some     bool
	priority int
}

func (t top) with(priority int) top {
	if t.some {
		priority = max(priority, t.priority)
	}
	return top{true, priority}
}

func (t top) told() int {
	if t.some {
		return t.priority
	}
	return nobody
}

// ceilings are those of all resources; a group's lies with the resource for which all of it stand.
func ceilings(c api.Config, found ends) []int {
	tops := map[int]top{}
	eachUser(c, func(u user) {
		for _, id := range u.resources {
			tops[found[id]] = tops[found[id]].with(u.priority)
		}
	})
	l := make([]int, len(c.Resources))
	for id := range l {
		l[id] = tops[found[id]].told()
	}
	return l
}

// scheduler is the ceiling of the scheduler as a resource.
func scheduler(c api.Config) int {
	var all top
	for _, t := range c.Tasks {
		all = all.with(t.Priority)
	}
	return all.told()
}

// running are the priorities at which tasks run while they hold nothing, by the ceilings that were reckoned.
func running(c api.Config, x api.Ceils) []int {
	l := make([]int, len(c.Tasks))
	for id, t := range c.Tasks {
		l[id] = t.Priority
		if !t.Full {
			l[id] = max(l[id], x.Scheduler)
		}
		for _, r := range t.Resources {
			if c.Resources[r].Kind == api.ResInternal {
				l[id] = max(l[id], x.Resources[r])
			}
		}
	}
	return l
}

// counts are how many resources tasks, and interrupts, can hold at one time.
func counts(c api.Config) (tasks, isrs []int) {
	eachUser(c, func(u user) {
		n := len(taken(c, u.resources))
		switch {
		case u.isr:
			isrs = append(isrs, n)
		case c.OS.Schedule:
			tasks = append(tasks, n+1)
		default:
			tasks = append(tasks, n)
		}
	})
	return tasks, isrs
}
