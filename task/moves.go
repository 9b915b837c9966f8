package task

import "tappet/api"

// move leads a task from one state to another.
type move struct{ from, to api.TaskState }

// rule is a move that may be, as its two states, and whether basic tasks make it, too.
type rule struct {
	states [2]api.TaskState
	basic  bool
}

var rules = [...]rule{
	{[2]api.TaskState{api.Suspended, api.Ready}, true},
	{[2]api.TaskState{api.Ready, api.Running}, true},
	{[2]api.TaskState{api.Running, api.Ready}, true},
	{[2]api.TaskState{api.Running, api.Suspended}, true},
	{[2]api.TaskState{api.Running, api.Waiting}, false},
	{[2]api.TaskState{api.Waiting, api.Ready}, false},
}

// allowed tells whether a task of this kind makes such a move.
func (m move) allowed(extended bool) bool {
	for _, r := range rules {
		if r.states == [2]api.TaskState{m.from, m.to} {
			return r.basic || extended
		}
	}
	return false
}
