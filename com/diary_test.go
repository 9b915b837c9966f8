package com_test

import (
	"slices"

	"tappet/api"
	"tappet/kernel"
)

// A second reading of the chapter: a diary of what was done, out of which each message is told by going through all of it again; what a call is to bring is handed to a kernel of its own.

// deed is a line of a diary: a service that was done, with what it was given.
type deed struct {
	service int
	message int
	value   uint64
}

type diary struct {
	x api.Tables
	k *kernel.Kernel
	l []deed
}

func newDiary(x api.Tables) *diary {
	k, _ := kernel.New(x)
	return &diary{x: x, k: k}
}

func (d *diary) copy() *diary { return &diary{x: d.x, k: d.k.Copy(), l: slices.Clone(d.l)} }

// where are the levels at which each service may be called, as chapter 17's table has them.
var where = map[int][]api.Level{
	40: {api.LevelTask, api.LevelIsr2, api.LevelCallback},
	41: {api.LevelTask, api.LevelIsr2, api.LevelCallback},
	42: {api.LevelTask, api.LevelIsr2, api.LevelError, api.LevelPre, api.LevelPost, api.LevelCallback},
	43: {api.LevelTask, api.LevelIsr2, api.LevelCallback},
	44: {api.LevelTask, api.LevelIsr1, api.LevelIsr2, api.LevelCallback},
	45: {api.LevelTask, api.LevelIsr1, api.LevelIsr2, api.LevelCallback},
}

// levelOf is that of a context.
func levelOf(x api.Tables, f api.Frame) api.Level {
	switch f.Kind {
	case api.FTask:
		return api.LevelTask
	case api.FIsr:
		return map[int]api.Level{1: api.LevelIsr1, 2: api.LevelIsr2}[x.Isrs[f.ID].Category]
	case api.FStartup:
		return api.LevelStartup
	case api.FError:
		return api.LevelError
	case api.FShutdown:
		return api.LevelShutdown
	case api.FPre:
		return api.LevelPre
	case api.FPost:
		return api.LevelPost
	case api.FCallback:
		return api.LevelCallback
	}
	return api.LevelNone
}

// story is what the diary says of a message.
type story struct {
	value uint64
	queue []uint64
	lost  bool
	flag  bool
	came  bool // by the last line, by which it comes
}

// of tells a message's story.
func (d *diary) of(id int) story {
	row := d.x.Messages[id]
	s := story{value: row.Init}
	if row.Kind == api.MsgSend {
		return s
	}
	for _, line := range d.l {
		s.came = line.service == api.SvSendMessage && line.message == row.From
		if s.came && row.Kind == api.MsgQueued && len(s.queue) == row.Queue {
			s.lost, s.came = true, false
		}
		if s.came {
			s.value = line.value
			s.queue = append(s.queue, line.value)
			s.flag = s.flag || row.Action.Kind == api.ActFlag
		}
		if line.message == id {
			s.done(line)
		}
	}
	if row.Kind == api.MsgUnqueued {
		s.queue, s.lost = nil, false
	} else {
		s.value = 0
	}
	return s
}

// done is what a service does to the message of which it is called.
func (s *story) done(line deed) {
	switch line.service {
	case api.SvReceiveMessage:
		if s.lost = false; len(s.queue) > 0 {
			s.queue = s.queue[1:]
		}
	case api.SvInitMessage:
		s.value, s.queue, s.lost = line.value, nil, false
	case api.SvResetFlag:
		s.flag = false
	}
}

func (d *diary) messages() []api.MessageLook {
	var l []api.MessageLook
	for id := range d.x.Messages {
		s := d.of(id)
		l = append(l, api.MessageLook{Value: s.value, Queue: s.queue, Lost: s.lost, Flag: s.flag})
	}
	return l
}

// step is P24.2.
func (d *diary) step(s api.Step) api.Answer {
	if s.Kind != api.SCall || s.Service < 40 || s.Service > 45 {
		a := d.k.Step(s)
		if s.Kind == api.SStart && !a.Idle && a.Status == api.EOK {
			d.l = nil
		}
		return a
	}
	l := d.k.Look()
	if len(l.Frames) == 0 {
		return api.Answer{Idle: true}
	}
	if !slices.Contains(where[s.Service], levelOf(d.x, l.Frames[len(l.Frames)-1])) {
		return d.brings(s, api.ECallLevel, 0)
	}
	if l.Shut || l.All != 0 || l.Os != 0 {
		return d.brings(s, api.EDisabled, 0)
	}
	status, value := d.serve(s)
	if status == api.EOK || s.Service == api.SvReceiveMessage && (status == api.EComLimit || status == api.EComNoMsg) {
		d.l = append(d.l, deed{s.Service, int(s.A), uint64(s.B) + uint64(s.C)*4294967296})
		return d.brings(s, status, value)
	}
	return d.brings(s, status, 0)
}

// brings hands what a call brings to the kernel.
func (d *diary) brings(s api.Step, status api.Status, value uint64) api.Answer {
	x := api.Effect{Status: status, Service: s.Service, Param: s.A}
	if s.Service == api.SvSendMessage && status == api.EOK {
		for id, row := range d.x.Messages {
			if row.Kind == api.MsgSend || row.From != int(s.A) || !d.of(id).came {
				continue
			}
			if row.Action.Kind != api.ActNone && row.Action.Kind != api.ActFlag {
				x.Deeds = append(x.Deeds, api.Deed{Action: row.Action, Callback: len(d.x.Alarms) + id})
			}
		}
	}
	a := d.k.Effect(x)
	a.V = [3]uint32{uint32(value % 4294967296), uint32(value / 4294967296)}
	return a
}

// serve tells the status and the value of a call that may be, P24.3 to P24.7.
func (d *diary) serve(s api.Step) (api.Status, uint64) {
	if int64(s.A) >= int64(len(d.x.Messages)) {
		return api.EComID, 0
	}
	row, now := d.x.Messages[s.A], d.of(int(s.A))
	if (row.Kind == api.MsgSend) != (s.Service == api.SvSendMessage) {
		return api.EComID, 0
	}
	switch s.Service {
	case api.SvSendMessage:
		return d.length(row.Length, s), 0
	case api.SvReceiveMessage, api.SvGetMessageStatus:
		return now.asked(row, s.Service == api.SvReceiveMessage)
	case api.SvInitMessage:
		if row.Kind == api.MsgQueued {
			return api.EOK, 0
		}
		return d.length(d.x.Messages[row.From].Length, s), 0
	}
	if row.Action.Kind != api.ActFlag {
		return api.EComID, 0
	}
	if s.Service == api.SvReadFlag && now.flag {
		return api.EOK, 1
	}
	return api.EOK, 0
}

// asked is P24.4, and without a value P24.5.
func (s story) asked(row api.MessageRow, gives bool) (status api.Status, value uint64) {
	switch {
	case row.Kind == api.MsgUnqueued:
		value = s.value
	case len(s.queue) == 0:
		return api.EComNoMsg, 0
	default:
		value = s.queue[0]
		if s.lost {
			status = api.EComLimit
		}
	}
	if !gives {
		value = 0
	}
	return status, value
}

// length: is a value of at most so many bytes?
func (d *diary) length(bytes int, s api.Step) api.Status {
	if bytes == 8 || s.C == 0 && (bytes == 4 || bytes == 2 && s.B < 65536 || bytes == 1 && s.B < 256) {
		return api.EOK
	}
	return api.EComLength
}
