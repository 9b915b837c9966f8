package ceil

import "tappet/api"

// user is who may use resources: a task, or an interrupt.
type user struct {
	isr       bool
	id        int
	priority  int
	resources []int
}

// eachUser hands over the tasks and then the interrupts, rising.
func eachUser(c api.Config, do func(u user)) {
	for id, t := range c.Tasks {
		do(user{id: id, priority: t.Priority, resources: t.Resources})
	}
	for id, x := range c.Isrs {
		do(user{isr: true, id: id, priority: x.Priority, resources: x.Resources})
	}
}

// taken are those of a list that are taken by calls: internal ones are not.
func taken(c api.Config, resources []int) []int {
	var l []int
	for _, id := range resources {
		if c.Resources[id].Kind != api.ResInternal {
			l = append(l, id)
		}
	}
	return l
}
