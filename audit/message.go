package audit

import "tappet/api"

// send lets a value come to all messages that are received of the sent one.
func (b *book) send(s api.Step) {
	for id, m := range b.config.Messages {
		if m.Kind != api.MsgSend && m.From == int(s.A) && b.put(id) {
			b.act(m.Action)
		}
	}
}

// put lays a value into a message's queue, if it has one; false: there is no room.
func (b *book) put(id int) bool {
	m := b.config.Messages[id]
	if m.Kind != api.MsgQueued {
		return true
	}
	if b.queues[id] >= m.Queue {
		return false
	}
	b.queues[id]++
	return true
}

// receive takes a value out of a message's queue. (Those that have no queue have no value in it.)
func (b *book) receive(s api.Step) {
	if id := int(s.A); isID(id, len(b.queues)) {
		b.queues[id] = max(b.queues[id]-1, 0)
	}
}

func (b *book) empty(s api.Step) {
	if id := int(s.A); isID(id, len(b.queues)) {
		b.queues[id] = 0
	}
}
