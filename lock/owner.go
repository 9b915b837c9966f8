package lock

import (
	"slices"

	"tappet/api"
	"tappet/stack"
)

// nothing stands for no resource, and for the priority of no owner; in the tables for a task without an internal resource.
const nothing = -1

// owner is a task or an ISR: what its row says, and what it holds.
type owner struct {
	priority int // its base priority
	category int // of an ISR
	own      []int
	internal int // the ceiling of its internal resource, or nothing
	inside   bool
	held     *stack.Stack[int]
}

// newOwner is one that holds nothing. Whoever holds a thing does not get it again, so all of its own is the room that it needs.
func newOwner(priority int, own []int) *owner {
	held, _ := stack.New[int](len(own)) // table.Check lets no list of own be longer than a stack may be deep
	return &owner{priority: priority, own: slices.Clone(own), internal: nothing, held: held}
}

// ownersOf are the owners of tables, by what they are called.
func ownersOf(t api.Tables) map[api.Owner]*owner {
	owners := make(map[api.Owner]*owner, len(t.Tasks)+len(t.Isrs))
	for id, row := range t.Tasks {
		x := newOwner(row.Priority, row.Own)
		x.internal = row.Internal
		owners[api.Owner{ID: id}] = x
	}
	for id, row := range t.Isrs {
		x := newOwner(row.Priority, row.Own)
		x.category = row.Category
		owners[api.Owner{Isr: true, ID: id}] = x
	}
	return owners
}

// copy is one that is alike; what its row says is never written again, and shared.
func (x *owner) copy() *owner {
	c := *x
	c.held = x.held.Copy()
	return &c
}
