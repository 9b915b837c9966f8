package class

import (
	"slices"

	"tappet/api"
	"tappet/octet"
)

func messageChecks() []check {
	return slices.Concat(
		[]check{
			{api.ErrValue, messageFieldsFit},
			{api.ErrRef, fromIsSent},
			{api.ErrValue, initFits},
		},
		actChecks(messageAct),
	)
}

// messageFieldsFit tells whether the kind is one, and each field as the kind has use for it.
func messageFieldsFit(c api.Config, id int) bool {
	m := c.Messages[id]
	switch m.Kind {
	case api.MsgSend:
		return isLength(m.Length) && m.From == 0 && m.Init == 0 && m.Queue == 0
	case api.MsgUnqueued:
		return m.Length == 0 && m.Queue == 0
	case api.MsgQueued:
		return m.Length == 0 && m.Init == 0 && within(m.Queue, 1, api.MaxQueue)
	}
	return false
}

func isLength(n int) bool { return n == 1 || n == 2 || n == 4 || n == 8 }

func fromIsSent(c api.Config, id int) bool {
	m := c.Messages[id]
	return m.Kind == api.MsgSend || isID(m.From, len(c.Messages)) && c.Messages[m.From].Kind == api.MsgSend
}

// initFits asks the length of the sent one, which may be any: that one may stand behind, not looked at yet.
func initFits(c api.Config, id int) bool {
	m := c.Messages[id]
	return m.Kind == api.MsgSend || m.Init <= api.MaxNumber && fitsInto(m.Init, c.Messages[m.From].Length)
}

// fitsInto tells whether a number is below 256 to the power n; of an n that is none of 0 to 7 nothing is asked.
func fitsInto(v uint64, n int) bool {
	if n == 0 {
		return v == 0
	}
	if !within(n, 1, 7) {
		return true
	}
	_, e := octet.Number(v, n)
	return e == api.OK
}

// messageAct: nothing is done when a message is sent, so that its action is none.
func messageAct(c api.Config, id int) act {
	m := c.Messages[id]
	if m.Kind == api.MsgSend {
		return act{m.Action, api.ActNone, api.ActNone}
	}
	return act{m.Action, api.ActNone, api.ActFlag}
}
