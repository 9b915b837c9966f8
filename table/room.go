package table

import "tappet/api"

// room is how much room the stack of the preempted, the frames, the errors and the callbacks that wait need.
type room struct{ depth, frames, errors, callbacks int }

// reckon reckons the room out of the rows alone, so that what is made and what is checked are held to one measure.
func reckon(t api.Tables) room {
	return room{
		depth:     len(t.Rings),
		frames:    len(t.Isrs) + 4,
		errors:    max(2, crowd(t.Alarms, counterOf), crowd(those(t.Messages, isReceived), senderOf)),
		callbacks: sum(t.Alarms, callsOfAlarm) + sum(t.Messages, callsOfMessage),
	}
}

func counterOf(a api.AlarmRow) int { return a.Counter }

func isReceived(m api.MessageRow) bool { return m.Kind != api.MsgSend }

func senderOf(m api.MessageRow) int { return m.From }

func callsOfAlarm(a api.AlarmRow) int { return calls(a.Action) }

func callsOfMessage(m api.MessageRow) int { return calls(m.Action) }

func calls(a api.ActionRow) int {
	if a.Kind == api.ActCallback {
		return 1
	}
	return 0
}
