package com_test

import (
	"math"
	"slices"

	"tappet/api"
)

// chance gives numbers that are the same in each run.
type chance uint64

func (c *chance) below(n int) int {
	*c = *c*6364136223846793005 + 1442695040888963407
	return int(uint64(*c>>33) % uint64(n))
}

func (c *chance) one(n int) bool { return c.below(n) == 0 }

// tables are made by chance, with more messages than anything else.
func (c *chance) tables() api.Tables {
	x := api.Tables{Uses: []int{0, 0, api.UseError, api.UseError, 127, c.below(128)}[c.below(6)], Modes: 1 + c.below(2)}
	x.Resources = []api.ResourceRow{{Ceiling: 70}}
	for range 1 + c.below(5) {
		row := api.TaskRow{Priority: c.below(4), Full: !c.one(3), Auto: uint32(c.below(1 << x.Modes)), Own: []int{0}}
		if c.one(3) {
			row.Mask = uint32(1 + c.below(7))
		} else {
			row.Limit = 1 + c.below(3)
		}
		x.Tasks = append(x.Tasks, row)
	}
	x.Tasks[0].Auto |= 1
	if c.one(2) {
		x.Counters = []api.CounterRow{{Max: uint32(1 + c.below(4)), Base: 1, Min: 1}}
		for range c.below(4) {
			x.Alarms = append(x.Alarms, api.AlarmRow{Action: c.action(x, 3)})
		}
	}
	for n := range c.below(3) {
		row := api.IsrRow{Category: 2, Priority: 68 + n, Own: []int{0}}
		if n == 1 && c.one(2) {
			row = api.IsrRow{Category: 1, Priority: 90}
		}
		x.Isrs = append(x.Isrs, row)
	}
	c.messages(&x)
	return fitted(x)
}

// messages: of one to three that are sent some are received, ahead of them and behind.
func (c *chance) messages(x *api.Tables) {
	many := 1 + c.below(10)
	var from []int
	for len(from) == 0 {
		for n := range many {
			if c.one(3) && len(from) < 3 {
				from = append(from, n)
			}
		}
	}
	for n := range many {
		switch one := from[c.below(len(from))]; {
		case slices.Contains(from, n):
			x.Messages = append(x.Messages, sent(1<<c.below(4)))
		case c.one(2):
			x.Messages = append(x.Messages, unqueued(one, uint64(c.below(256)), c.action(*x, 5)))
		default:
			x.Messages = append(x.Messages, queued(one, []int{1, 2, 3, 16}[c.below(4)], c.action(*x, 5)))
		}
	}
}

// action is one of the first so many kinds.
func (c *chance) action(x api.Tables, kinds int) api.ActionRow {
	n := c.below(len(x.Tasks))
	switch c.below(kinds) {
	case 0:
		return callsBack()
	case 1:
		if mask := x.Tasks[n].Mask; mask != 0 {
			return sets(n, mask)
		}
		return activates(n)
	case 2:
		return activates(n)
	case 3:
		return flags()
	}
	return api.ActionRow{}
}

// step is one by chance; those that get on are likelier than such as are idle or refused.
func (c *chance) step(x api.Tables, l api.Look) api.Step {
	if l.Phase == api.Off {
		return start(c.below(x.Modes+1) - c.below(2))
	}
	top := none
	if n := len(l.Frames); n > 0 {
		top = l.Frames[n-1]
	}
	switch k := c.below(100); {
	case k < 6:
		return tick(c.below(len(x.Counters)+2) - 1)
	case k < 12:
		return irq(c.below(len(x.Isrs)+2) - 1)
	case k < 15 || top.Kind > api.FIsr && top.Kind != api.FCallback && k < 75 || top.Kind == api.FCallback && k < 30:
		return ret()
	case k < 16:
		return api.Step{Kind: api.StepKind(c.below(9) - 1), ID: c.below(3), Service: 38 + c.below(9)}
	case k < 40:
		return c.other(x, l)
	}
	return c.message(x)
}

// other is a call of none of the messages' services; those that shut interrupts out are likely to be undone.
func (c *chance) other(x api.Tables, l api.Look) api.Step {
	if l.Shut || l.All+l.Os > 0 {
		return call([]int{api.SvEnableAllInterrupts, api.SvResumeAllInterrupts, api.SvResumeOSInterrupts}[c.below(3)])
	}
	n := uint32(c.below(len(x.Tasks) + 1))
	switch c.below(12) {
	case 0, 1, 2:
		return call(api.SvActivateTask, n)
	case 3, 4:
		return call(api.SvTerminateTask)
	case 5:
		return call(api.SvChainTask, n)
	case 6:
		return call(api.SvWaitEvent, 1+n)
	case 7:
		return call(api.SvSetRelAlarm, uint32(c.below(4)), 1, uint32(c.below(2)))
	case 8:
		return call(10 + c.below(6))
	case 9:
		return call(16+c.below(2), 0)
	case 10:
		return call(46 + c.below(2)*c.below(40))
	}
	if c.one(20) {
		return call(api.SvShutdownOS, n)
	}
	return call(api.SvSetEvent, n, 1)
}

// message is a call of messages; most of the time of one of which it may be called.
func (c *chance) message(x api.Tables) api.Step {
	s := call(40+c.below(6), uint32(c.below(len(x.Messages)+1)), uint32(c.below(270)))
	if c.one(3) {
		s.Service = api.SvSendMessage
	}
	if l := fitting(x, s.Service); len(l) > 0 && !c.one(8) {
		s.A = l[c.below(len(l))]
	}
	switch c.below(30) {
	case 0:
		s.A = beyond[c.below(len(beyond))]
	case 1:
		s.B = math.MaxUint32 - uint32(c.below(2))
	case 2:
		s.C = uint32(c.below(3)) * math.MaxUint32
	case 3:
		s.B = uint32(65535 + c.below(2))
	}
	return s
}

// fitting are the messages of which a service may be called.
func fitting(x api.Tables, service int) []uint32 {
	var l []uint32
	for id, m := range x.Messages {
		isSent, hasFlag := m.Kind == api.MsgSend, m.Action.Kind == api.ActFlag
		if isSent == (service == api.SvSendMessage) && (hasFlag || service < api.SvReadFlag) {
			l = append(l, uint32(id))
		}
	}
	return l
}
