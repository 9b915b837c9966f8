package ceil_test

import (
	"slices"

	"tappet/api"
)

// A second reading of the chapter, slow and word by word.

func has[T any](l []T, id int) bool { return id >= 0 && id < len(l) }

// end goes on as long as what it meets is linked; -1: behind more steps than there are resources it still is.
func end(c api.Config, id int) int {
	for range len(c.Resources) + 1 {
		if c.Resources[id].Kind != linked {
			return id
		}
		id = c.Resources[id].Link
	}
	return -1
}

// lists are those of tasks and of interrupts.
func lists(c api.Config) (tasks, isrs [][]int) {
	for _, x := range c.Tasks {
		tasks = append(tasks, x.Resources)
	}
	for _, x := range c.Isrs {
		isrs = append(isrs, x.Resources)
	}
	return tasks, isrs
}

func refsFault(c api.Config) bool {
	tasks, isrs := lists(c)
	for _, l := range slices.Concat(tasks, isrs) {
		for i, id := range l {
			if !has(c.Resources, id) {
				return true
			}
			for _, ahead := range l[:i] {
				if ahead >= id {
					return true
				}
			}
		}
	}
	for _, r := range c.Resources {
		if !slices.Contains([]api.ResourceKind{1, 2, 3}, r.Kind) || r.Kind == 2 && !has(c.Resources, r.Link) {
			return true
		}
	}
	return false
}

func linksFault(c api.Config) bool {
	for id := range c.Resources {
		if end(c, id) == -1 {
			return true
		}
	}
	return false
}

func internals(c api.Config, l []int) []int {
	var out []int
	for _, id := range l {
		if c.Resources[id].Kind == internal {
			out = append(out, id)
		}
	}
	return out
}

func internalFault(c api.Config) bool {
	tasks, isrs := lists(c)
	for _, l := range tasks {
		if len(internals(c, l)) >= 2 {
			return true
		}
	}
	for _, l := range isrs {
		if len(internals(c, l)) >= 1 {
			return true
		}
	}
	for id, r := range c.Resources {
		if r.Kind == linked && c.Resources[end(c, id)].Kind == internal {
			return true
		}
	}
	return false
}

// errorOf is what Check must answer.
func errorOf(c api.Config) api.Errno {
	switch {
	case refsFault(c):
		return api.ErrRefs
	case linksFault(c):
		return api.ErrLinks
	case internalFault(c):
		return api.ErrInternal
	}
	return api.OK
}

// groupOf and what follows are what the functions must answer of a configuration that Check takes.
func groupOf(c api.Config, id int) []int {
	var l []int
	for other := range c.Resources {
		if end(c, other) == end(c, id) {
			l = append(l, other)
		}
	}
	return l
}

func usersOf(c api.Config, id int) (tasks, isrs []int) {
	group := groupOf(c, id)
	naming := func(all [][]int) []int {
		var l []int
		for i, list := range all {
			if slices.ContainsFunc(group, func(id int) bool { return slices.Contains(list, id) }) {
				l = append(l, i)
			}
		}
		return l
	}
	t, i := lists(c)
	return naming(t), naming(i)
}

func greatest(l []int) int {
	if len(l) == 0 {
		return -1
	}
	return slices.Max(l)
}

func ceilingOf(c api.Config, id int) int {
	tasks, isrs := usersOf(c, id)
	var l []int
	for _, i := range tasks {
		l = append(l, c.Tasks[i].Priority)
	}
	for _, i := range isrs {
		l = append(l, c.Isrs[i].Priority)
	}
	return greatest(l)
}

func ceilsOf(c api.Config) api.Ceils {
	var x api.Ceils
	for id := range c.Resources {
		x.Resources = append(x.Resources, ceilingOf(c, id))
	}
	var priorities []int
	for _, t := range c.Tasks {
		priorities = append(priorities, t.Priority)
	}
	x.Scheduler = greatest(priorities)
	for _, t := range c.Tasks {
		of := []int{t.Priority}
		if !t.Full {
			of = append(of, x.Scheduler)
		}
		own := internals(c, t.Resources)
		for _, id := range own {
			of = append(of, ceilingOf(c, id))
		}
		x.Running = append(x.Running, greatest(of))
		n := len(t.Resources) - len(own)
		if c.OS.Schedule {
			n++
		}
		x.Tasks = append(x.Tasks, n)
	}
	for _, i := range c.Isrs {
		x.Isrs = append(x.Isrs, len(i.Resources))
	}
	return x
}

func blocksOf(c api.Config, low, high int) []int {
	var l []int
	for _, id := range c.Tasks[low].Resources {
		if c.Resources[id].Kind != internal && ceilingOf(c, id) >= c.Tasks[high].Priority && c.Tasks[low].Priority < c.Tasks[high].Priority {
			l = append(l, id)
		}
	}
	return l
}
