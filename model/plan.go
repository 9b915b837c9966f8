package model

import (
	"slices"

	"tappet/api"
	"tappet/ceil"
)

// plan is what a machine reads and does not change; copies share it.
type plan struct {
	c          api.Config
	ceilings   []int // of the resources, and behind them of RES_SCHEDULER, if the OS uses it
	priorities []int // those that tasks have, from the greatest on
	services   []service
	rules      []rule
}

func newPlan(c api.Config) *plan {
	reckoned, _ := ceil.Reckon(c) // a configuration that may be is not refused
	ceilings := reckoned.Resources
	if c.OS.Schedule {
		ceilings = append(ceilings, reckoned.Scheduler)
	}
	return &plan{c: kept(c), ceilings: ceilings, priorities: priorities(c.Tasks), services: services(), rules: rules()}
}

// kept is what the machine looks at of a configuration, in memory of its own.
func kept(c api.Config) api.Config {
	k := api.Config{
		OS:        c.OS,
		Modes:     slices.Clone(c.Modes),
		Tasks:     slices.Clone(c.Tasks),
		Resources: slices.Clone(c.Resources),
		Events:    slices.Clone(c.Events),
		Counters:  slices.Clone(c.Counters),
		Alarms:    slices.Clone(c.Alarms),
		Isrs:      slices.Clone(c.Isrs),
	}
	for i := range k.Tasks {
		t := &k.Tasks[i]
		t.Auto, t.Resources, t.Events, t.Messages = slices.Clone(t.Auto), slices.Clone(t.Resources), slices.Clone(t.Events), nil
	}
	for i := range k.Alarms {
		k.Alarms[i].Auto = slices.Clone(k.Alarms[i].Auto)
	}
	for i := range k.Isrs {
		k.Isrs[i].Resources, k.Isrs[i].Messages = slices.Clone(k.Isrs[i].Resources), nil
	}
	return k
}

// priorities are those that tasks have, each once, from the greatest on.
func priorities(tasks []api.Task) []int {
	var l []int
	for _, t := range tasks {
		l = append(l, t.Priority)
	}
	slices.Sort(l)
	l = slices.Compact(l)
	slices.Reverse(l)
	return l
}

func (p *plan) isInternal(resource int) bool {
	return resource < len(p.c.Resources) && p.c.Resources[resource].Kind == api.ResInternal
}

// internal is the internal resource of a task; false: it has none.
func (p *plan) internal(task int) (int, bool) {
	own := p.c.Tasks[task].Resources
	i := slices.IndexFunc(own, p.isInternal)
	if i < 0 {
		return 0, false
	}
	return own[i], true
}

// isID: a parameter is the id of one of so many.
func isID(parameter uint32, many int) bool { return uint64(parameter) < uint64(many) }

func (p *plan) isTask(parameter uint32) bool { return isID(parameter, len(p.c.Tasks)) }

func (p *plan) isAlarm(parameter uint32) bool { return isID(parameter, len(p.c.Alarms)) }

// isResource: of those that can be taken.
func (p *plan) isResource(parameter uint32) bool {
	return isID(parameter, len(p.ceilings)) && !p.isInternal(int(parameter))
}

// counterOf is the counter of an alarm.
func (p *plan) counterOf(alarm int) api.Counter { return p.c.Counters[p.c.Alarms[alarm].Counter] }
