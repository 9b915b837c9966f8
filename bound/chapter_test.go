package bound_test

import (
	"slices"

	"tappet/api"
	"tappet/class"
)

// A second reading of the chapter, slow and word by word: each time up to the limit is tried.

// ceilingOf is the greatest priority of all that use a resource, by whatever name of its group; -1: nobody does.
func ceilingOf(c api.Config, resource int) int {
	ceiling := -1
	uses := func(l []int) bool {
		if resource == len(c.Resources) {
			return false
		}
		return slices.ContainsFunc(l, func(r int) bool { return class.Root(c, r) == class.Root(c, resource) })
	}
	for _, t := range c.Tasks {
		if resource == len(c.Resources) || uses(t.Resources) {
			ceiling = max(ceiling, t.Priority)
		}
	}
	for _, x := range c.Isrs {
		if uses(x.Resources) {
			ceiling = max(ceiling, x.Priority)
		}
	}
	return ceiling
}

// errorOf is P27.1.
func errorOf(c api.Config, f api.Figures) api.Errno {
	if class.Check(c) != (api.Verdict{}) {
		return api.ErrArg
	}
	const most = 2147483647
	if len(f.Work) != len(c.Tasks) || len(f.Period) != len(c.Tasks) || len(f.IsrWork) != len(c.Isrs) || len(f.IsrEvery) != len(c.Isrs) {
		return api.ErrFigures
	}
	for _, n := range slices.Concat(f.Work, f.Period, f.IsrEvery) {
		if n == 0 || n > most {
			return api.ErrFigures
		}
	}
	for _, n := range f.IsrWork {
		if n > most {
			return api.ErrFigures
		}
	}
	for _, x := range f.Sections {
		if !slices.Contains(sectionsOf(c, x.Task), x.Resource) || x.Length > f.Work[x.Task] {
			return api.ErrFigures
		}
	}
	return api.OK
}

// sectionsOf are the resources with which a task may have sections; of what is no task none.
func sectionsOf(c api.Config, task int) []int {
	var l []int
	for id, t := range c.Tasks {
		if id != task {
			continue
		}
		for _, r := range t.Resources {
			if c.Resources[r].Kind != api.ResInternal {
				l = append(l, r)
			}
		}
		if c.OS.Schedule {
			l = append(l, len(c.Resources))
		}
	}
	return l
}

// blockedOf is P27.2.
func blockedOf(c api.Config, f api.Figures, task int) uint64 {
	own := c.Tasks[task].Priority
	all := []uint64{0}
	for low, t := range c.Tasks {
		if t.Priority >= own {
			continue
		}
		if !t.Full {
			all = append(all, f.Work[low])
		}
		for _, r := range t.Resources {
			if c.Resources[r].Kind == api.ResInternal && ceilingOf(c, r) >= own {
				all = append(all, f.Work[low])
			}
		}
		for _, x := range f.Sections {
			if x.Task == low && ceilingOf(c, x.Resource) >= own {
				all = append(all, x.Length)
			}
		}
	}
	return slices.Max(all)
}

// up is a quotient, rounded up.
func up(n, by uint64) uint64 {
	q := n / by
	if n%by > 0 {
		q++
	}
	return q
}

// sumOf is P27.3's sum for R; R is at most a million, so that it does not wrap.
func sumOf(c api.Config, f api.Figures, task int, blocked, R uint64) uint64 {
	sum := f.Work[task] + blocked
	for other, t := range c.Tasks {
		if other != task && !(t.Priority < c.Tasks[task].Priority) {
			sum += up(R, f.Period[other]) * f.Work[other]
		}
	}
	for isr := range c.Isrs {
		sum += up(R, f.IsrEvery[isr]) * f.IsrWork[isr]
	}
	return sum
}

// replyOf is P27.3 of figures that may be.
func replyOf(c api.Config, f api.Figures, task int, limit uint64) api.Reply {
	reply := api.Reply{Blocked: blockedOf(c, f, task)}
	for R := uint64(0); R <= limit; R++ {
		if sumOf(c, f, task, reply.Blocked, R) == R {
			reply.Worst, reply.Meets = R, true
			break
		}
	}
	return reply
}
