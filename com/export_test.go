package com

// Spoil lays a value into each message that is received, has it lost something, and sets all flags, as no step of a node can do that is off.
func (n *Node) Spoil() {
	for id, b := range n.mail.boxes {
		n.mail.flags[id] = true
		for b != nil && b.put(77) && n.rows[id].Queue > 0 {
		}
	}
}
