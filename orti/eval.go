package orti

import (
	"math"
	"slices"
	"strconv"
	"strings"

	"tappet/api"
	"tappet/octet"
)

// question is what an expression asks: its word, and who answers, told what stands behind the word.
type question struct {
	word string
	ask  func(o api.Orti, l api.Look, behind string) (string, bool)
}

func questions() []question {
	return []question{
		{"$running", running},
		{"$state", ofTask(func(t api.TaskLook) int { return int(t.State) })},
		{"$priority", ofTask(func(t api.TaskLook) int { return t.Priority })},
		{"$active", ofTask(func(t api.TaskLook) int { return t.Active })},
		{"$locker", locker},
		{"$left", ofAlarm(func(a api.AlarmLook) uint32 { return a.Left })},
		{"$cycle", ofAlarm(func(a api.AlarmLook) uint32 { return a.Cycle })},
		{"$requested", requested},
	}
}

// cutWord: a word ends where the bracket of a number begins.
func cutWord(expr string) (word, behind string) {
	word, _, _ = strings.Cut(expr, "[")
	return word, expr[len(word):]
}

// isNumber tells whether an expression is its own value.
func isNumber(expr string) bool {
	_, e := octet.Digits(expr, math.MaxUint64)
	return expr == "-1" || e == api.OK
}

// inBrackets is the number that stands in brackets, if it is one of n things.
func inBrackets(s string, n int) (int, bool) {
	s, opened := strings.CutPrefix(s, "[")
	s, closed := strings.CutSuffix(s, "]")
	v, e := octet.Digits(s, math.MaxInt)
	return int(v), opened && closed && e == api.OK && int(v) < n
}

func running(_ api.Orti, l api.Look, behind string) (string, bool) {
	if len(l.Frames) > 0 && l.Frames[0].Kind == api.FTask {
		return strconv.Itoa(l.Frames[0].ID), behind == ""
	}
	return octet.Decimal(noTask), behind == ""
}

// ofTask answers by a number of the task that is asked for.
func ofTask(value func(t api.TaskLook) int) func(o api.Orti, l api.Look, behind string) (string, bool) {
	return func(o api.Orti, l api.Look, behind string) (string, bool) {
		i, ok := inBrackets(behind, len(o.Tasks))
		if !ok || len(l.Tasks) != len(o.Tasks) {
			return "", false
		}
		return strconv.Itoa(value(l.Tasks[i])), true
	}
}

// ofAlarm answers by a number of the alarm that is asked for.
func ofAlarm(value func(a api.AlarmLook) uint32) func(o api.Orti, l api.Look, behind string) (string, bool) {
	return func(o api.Orti, l api.Look, behind string) (string, bool) {
		i, ok := inBrackets(behind, len(o.Alarms))
		if !ok || len(l.Alarms) != len(o.Alarms) {
			return "", false
		}
		return octet.Decimal(uint64(value(l.Alarms[i]))), true
	}
}

func requested(o api.Orti, l api.Look, behind string) (string, bool) {
	i, ok := inBrackets(behind, len(o.Isrs))
	if slices.Contains(l.Requested, i) {
		return "1", ok
	}
	return "0", ok
}

func locker(o api.Orti, l api.Look, behind string) (string, bool) {
	i, ok := inBrackets(behind, len(o.Resources))
	return whoHolds(o, l, i), ok
}

// whoHolds: a holder of whom the debugger was told nothing is nobody to it, whoever else holds the resource.
func whoHolds(o api.Orti, l api.Look, resource int) string {
	task := slices.IndexFunc(l.Tasks, func(t api.TaskLook) bool { return slices.Contains(t.Held, resource) })
	isr := slices.IndexFunc(l.Held, func(held []int) bool { return slices.Contains(held, resource) })
	switch {
	case task >= 0 && task < len(o.Tasks):
		return "TASK " + o.Tasks[task].Name
	case task < 0 && isr >= 0 && isr < len(o.Isrs):
		return "ISR " + o.Isrs[isr].Name
	default:
		return "NOBODY"
	}
}
