package class

import (
	"slices"

	"tappet/api"
)

// act is an action, and of which kinds it may be where it stands.
type act struct {
	action      api.Action
	least, most api.ActionKind
}

// actChecks are the checks of an action: they are the same of alarms and of messages, but for the kinds that may be.
func actChecks(of func(c api.Config, id int) act) []check {
	return []check{
		{api.ErrValue, func(c api.Config, id int) bool { return of(c, id).hasKind() }},
		{api.ErrValue, func(c api.Config, id int) bool { return isBare(of(c, id).action) }},
		{api.ErrRef, func(c api.Config, id int) bool { return meetsObjects(c, of(c, id).action) }},
		{api.ErrRule, func(c api.Config, id int) bool { return meetsOwner(c, of(c, id).action) }},
		{api.ErrNames, func(c api.Config, id int) bool { return isCalled(of(c, id).action) }},
	}
}

func usesTask(k api.ActionKind) bool { return k == api.ActTask || k == api.ActEvent }

func usesEvent(k api.ActionKind) bool { return k == api.ActEvent }

func usesName(k api.ActionKind) bool { return k == api.ActCallback || k == api.ActFlag }

func (a act) hasKind() bool { return within(a.action.Kind, a.least, a.most) }

// isBare tells whether what the action's kind has no use for is 0 or empty.
func isBare(a api.Action) bool {
	return (usesTask(a.Kind) || a.Task == 0) && (usesEvent(a.Kind) || a.Event == 0) && (usesName(a.Kind) || a.Name == "")
}

func meetsObjects(c api.Config, a api.Action) bool {
	return (!usesTask(a.Kind) || isID(a.Task, len(c.Tasks))) && (!usesEvent(a.Kind) || isID(a.Event, len(c.Events)))
}

// meetsOwner tells whether the event that is set is one of the task's.
func meetsOwner(c api.Config, a api.Action) bool {
	return !usesEvent(a.Kind) || slices.Contains(c.Tasks[a.Task].Events, a.Event)
}

func isCalled(a api.Action) bool { return !usesName(a.Kind) || isName(a.Name) }
