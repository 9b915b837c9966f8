package core

import "tappet/api"

// The lock's calls are the core's own by embedding; those that layer 20 lists are named here, too, since a core that is nil has no lock that could answer.

// Get takes a resource (P20.5).
func (c *Core) Get(o api.Owner, resource int) api.Status {
	if c.none() {
		return api.EID
	}
	return c.Lock.Get(o, resource)
}

// Release gives a resource back (P20.5).
func (c *Core) Release(o api.Owner, resource int) api.Status {
	if c.none() {
		return api.EID
	}
	return c.Lock.Release(o, resource)
}

// Drop gives all back that somebody holds (P20.5).
func (c *Core) Drop(o api.Owner) (int, bool) {
	if c.none() {
		return 0, false
	}
	return c.Lock.Drop(o)
}

// Held tells what somebody holds (P20.5).
func (c *Core) Held(o api.Owner) []int {
	if c.none() {
		return nil
	}
	return c.Lock.Held(o)
}

// Priority tells the current priority of a task or an ISR (P20.5).
func (c *Core) Priority(o api.Owner) int {
	if c.none() {
		return -1
	}
	return c.Lock.Priority(o)
}
