package orti

import (
	"cmp"
	"slices"
	"strings"

	"tappet/api"
)

// The first words of actions.
const (
	activates = "ACTIVATETASK"
	setsEvent = "SETEVENT"
	callsBack = "ALARMCALLBACK"
)

// actions says of each first word of an action how many names stand behind it.
var actions = [...]struct {
	word  string
	names int
}{
	{activates, 1},
	{setsEvent, 2},
	{callsBack, 1},
}

// fits tells whether all is so that P11.2 asks for.
func fits(o api.Orti) bool {
	return isName(o.OS) && all(o.Tasks, taskFits) && all(o.Resources, resourceFits) && all(o.Alarms, alarmFits) && all(o.Isrs, isrFits)
}

func taskFits(t api.OrtiTask) bool { return isName(t.Name) }

func resourceFits(r api.OrtiResource) bool {
	return isName(r.Name) && within(r.Ceiling, -1, api.MaxIsr)
}

func alarmFits(a api.OrtiAlarm) bool {
	return isName(a.Name) && isName(a.Counter) && isAction(a.Action)
}

func isrFits(i api.OrtiIsr) bool {
	return isName(i.Name) && within(i.Category, 1, 2) && within(i.Priority, api.IsrBase, api.MaxIsr)
}

// isAction: no name has a blank in it, so that blanks cut an action into its words.
func isAction(s string) bool {
	words := strings.Split(s, " ")
	for _, a := range actions {
		if words[0] == a.word && len(words) == 1+a.names {
			return all(words[1:], isName)
		}
	}
	return false
}

func isName(s string) bool {
	if s == "" || len(s) > api.MaxName || within(s[0], '0', '9') {
		return false
	}
	return all([]byte(s), nameByte)
}

func nameByte(b byte) bool {
	return within(b, 'A', 'Z') || within(b, 'a', 'z') || within(b, '0', '9') || b == '_'
}

func all[T any](l []T, holds func(T) bool) bool {
	return !slices.ContainsFunc(l, func(x T) bool { return !holds(x) })
}

func within[T cmp.Ordered](v, least, most T) bool { return least <= v && v <= most }
