package names

import (
	"maps"
	"slices"

	"tappet/api"
)

// findMasks gives the events that are open their masks; those for which no bit is left stay open, and the first of them is at fault.
func findMasks(c api.Config, open map[int]api.Item) error {
	n := neighbours(c)
	for id, e := range c.Events {
		if _, ok := open[id]; !ok {
			n.take(id, e.Mask)
		}
	}
	for id := range c.Events {
		if _, ok := open[id]; !ok {
			continue
		}
		if bit := leastLeft(n.taken(id)); bit != 0 {
			c.Events[id].Mask = bit
			n.take(id, bit)
			delete(open, id)
		}
	}
	if len(open) == 0 {
		return nil
	}
	first := open[slices.Min(slices.Collect(maps.Keys(open)))]
	return &unresolved{reason: errMask, at: first.At, name: first.Name}
}

// crowd knows which events stand together: of each event the tasks that have it, of each task the bits of its events that have their masks.
type crowd struct {
	tasks [][]int
	bits  []uint32
}

func neighbours(c api.Config) crowd {
	n := crowd{tasks: make([][]int, len(c.Events)), bits: make([]uint32, len(c.Tasks))}
	for t, task := range c.Tasks {
		for _, id := range task.Events {
			n.tasks[id] = append(n.tasks[id], t)
		}
	}
	return n
}

// take notes that an event has a mask.
func (n crowd) take(id int, mask uint32) {
	for _, t := range n.tasks[id] {
		n.bits[t] |= mask
	}
}

// taken answers the bits that the events have that stand together with one.
func (n crowd) taken(id int) uint32 {
	var mask uint32
	for _, t := range n.tasks[id] {
		mask |= n.bits[t]
	}
	return mask
}

// leastLeft answers the least bit that a mask leaves; 0, if it leaves none.
func leastLeft(mask uint32) uint32 {
	least := uint64(1) << 32 // one above all bits, which is 0 among 32 of them
	for i := range 32 {
		if bit := uint64(1) << i; uint64(mask)&bit == 0 {
			least = min(least, bit)
		}
	}
	return uint32(least)
}
