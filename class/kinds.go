package class

import (
	"slices"

	"tappet/api"
)

// check is a thing that must be so of an object, and what is told if it is not.
type check struct {
	code  api.Errno
	holds func(c api.Config, id int) bool
}

// kind is a row of P7.1's table: a kind's word, how many of it there may be, what its objects are called, and the checks of each, from the left.
type kind struct {
	word        string
	least, most int
	names       func(c api.Config) []string
	checks      []check
}

// kinds is P7.1's table.
func kinds() []kind {
	return []kind{
		{"CPU", 1, 1, cpuNames, nil},
		{"OS", 1, 1, osNames, nil},
		{"APPMODE", 1, api.MaxModes, modeNames, nil},
		{"RESOURCE", 0, api.MaxResources, resourceNames, resourceChecks()},
		{"EVENT", 0, api.MaxEvents, eventNames, eventChecks()},
		{"TASK", 1, api.MaxTasks, taskNames, taskChecks()},
		{"COUNTER", 0, api.MaxCounters, counterNames, counterChecks()},
		{"ALARM", 0, api.MaxAlarms, alarmNames, alarmChecks()},
		{"ISR", 0, api.MaxIsrs, isrNames, isrChecks()},
		{"MESSAGE", 0, api.MaxMessages, messageNames, messageChecks()},
	}
}

// look asks the kinds one behind the other. A check may rely on all that was asked ahead of it: what it goes to by an id is there.
func look(c api.Config) error {
	for _, k := range kinds() {
		if err := k.look(c); err != nil {
			return err
		}
	}
	return nil
}

func (k kind) look(c api.Config) error {
	names := k.names(c)
	if !within(len(names), k.least, k.most) {
		return refuse(api.ErrOver, k.word, 0)
	}
	for id, name := range names {
		if !isName(name) || slices.Contains(names[:id], name) {
			return refuse(api.ErrNames, k.word, id)
		}
		for _, x := range k.checks {
			if !x.holds(c, id) {
				return refuse(x.code, k.word, id)
			}
		}
	}
	return nil
}
