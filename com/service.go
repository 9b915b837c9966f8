package com

import (
	"tappet/api"
	"tappet/level"
)

// result is what came of a call: its status, the value that it tells, the deeds that it brings.
type result struct {
	status api.Status
	value  uint64
	deeds  []api.Deed
}

func refused(s api.Status) result { return result{status: s} }

// isOfMessages: one of the services that are done here (P24.2).
func isOfMessages(service int) bool {
	return service >= api.SvSendMessage && service <= api.SvResetFlag
}

// call does a call of the context that runs (P24.2). If none does, it is refused, and the kernel answers that it was idle.
func (n *Node) call(s api.Step) api.Answer {
	r := n.serve(s)
	a := n.kernel.Effect(api.Effect{Status: r.status, Service: s.Service, Param: s.A, Deeds: r.deeds})
	a.V[0], a.V[1] = uint32(r.value), uint32(r.value>>32)
	return a
}

// serve does what a call asks, if the context that runs may call that now.
func (n *Node) serve(s api.Step) result {
	look := n.kernel.Look()
	switch {
	case !level.May(s.Service, n.level(look.Frames)):
		return refused(api.ECallLevel)
	case look.Shut || look.All > 0 || look.Os > 0:
		return refused(api.EDisabled)
	}
	switch s.Service {
	case api.SvSendMessage:
		return n.send(s.A, valueOf(s))
	case api.SvReceiveMessage:
		return n.receive(s.A)
	case api.SvGetMessageStatus:
		return n.getStatus(s.A)
	case api.SvInitMessage:
		return n.initMessage(s.A, valueOf(s))
	case api.SvReadFlag:
		return n.readFlag(s.A)
	}
	return n.resetFlag(s.A)
}

// level is what the context that runs, the last of the frames, may call; that of no context, if none runs.
func (n *Node) level(frames []api.Frame) api.Level {
	if len(frames) == 0 {
		return api.LevelNone
	}
	f := frames[len(frames)-1]
	category := 0
	if f.Kind == api.FIsr {
		category = n.categories[f.ID]
	}
	return level.Of(f.Kind, category)
}

// valueOf is the value that a call gives.
func valueOf(s api.Step) uint64 { return uint64(s.C)<<32 | uint64(s.B) }

// fits: a value of that many bytes. (A shift by all 64 bits leaves 0: eight bytes hold all.)
func fits(value uint64, length int) bool { return value>>(8*length) == 0 }

// send is P24.3.
func (n *Node) send(message uint32, value uint64) result {
	row, is := n.sent(message)
	switch {
	case !is:
		return refused(api.EComID)
	case !fits(value, row.Length):
		return refused(api.EComLength)
	}
	var r result
	for id, b := range n.mail.boxes {
		if b != nil && n.rows[id].From == int(message) && b.put(value) {
			r.deeds = append(r.deeds, n.come(id)...)
		}
	}
	return r
}

// come is a message's coming: its flag is set, or there is something for the kernel to do.
func (n *Node) come(received int) []api.Deed {
	action := n.rows[received].Action
	switch action.Kind {
	case api.ActNone:
		return nil
	case api.ActFlag:
		n.mail.flags[received] = true
		return nil
	}
	return []api.Deed{{Action: action, Callback: n.alarms + received}}
}

// receive is P24.4.
func (n *Node) receive(message uint32) result {
	b, is := n.mail.box(message)
	if !is {
		return refused(api.EComID)
	}
	value, status := b.take()
	return result{status: status, value: value}
}

// getStatus is P24.5.
func (n *Node) getStatus(message uint32) result {
	b, is := n.mail.box(message)
	if !is {
		return refused(api.EComID)
	}
	return result{status: b.status()}
}

// initMessage is P24.6.
func (n *Node) initMessage(message uint32, value uint64) result {
	b, is := n.mail.box(message)
	if !is {
		return refused(api.EComID)
	}
	if _, keeps := b.(*unqueued); keeps && !fits(value, n.length(message)) {
		return refused(api.EComLength)
	}
	b.begin(value)
	return result{}
}

// hasFlag: it is a received message that has a flag. (Sent ones have no action.)
func (n *Node) hasFlag(message uint32) bool {
	return uint64(message) < uint64(len(n.rows)) && n.rows[message].Action.Kind == api.ActFlag
}

// readFlag and resetFlag are P24.7.
func (n *Node) readFlag(message uint32) result {
	switch {
	case !n.hasFlag(message):
		return refused(api.EComID)
	case n.mail.flags[message]:
		return result{value: 1}
	}
	return result{}
}

func (n *Node) resetFlag(message uint32) result {
	if !n.hasFlag(message) {
		return refused(api.EComID)
	}
	n.mail.flags[message] = false
	return result{}
}
