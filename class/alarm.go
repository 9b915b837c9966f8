package class

import (
	"slices"

	"tappet/api"
)

func counterChecks() []check {
	return []check{{api.ErrValue, counterFits}}
}

func counterFits(c api.Config, id int) bool {
	x := c.Counters[id]
	return within(x.Max, 1, api.MaxTick) && within(x.Base, 1, api.MaxTick) && within(x.Min, 1, x.Max)
}

func alarmChecks() []check {
	return slices.Concat(
		[]check{{api.ErrRef, counterIsID}},
		actChecks(alarmAct),
		[]check{
			{api.ErrRef, alarmModesRise},
			{api.ErrValue, alarmTimesFit},
		},
	)
}

func counterIsID(c api.Config, id int) bool { return isID(c.Alarms[id].Counter, len(c.Counters)) }

func alarmAct(c api.Config, id int) act {
	return act{c.Alarms[id].Action, api.ActTask, api.ActCallback}
}

func alarmModesRise(c api.Config, id int) bool { return rises(c.Alarms[id].Auto, len(c.Modes)) }

func alarmTimesFit(c api.Config, id int) bool {
	a := c.Alarms[id]
	if len(a.Auto) == 0 {
		return a.Time == 0 && a.Cycle == 0
	}
	counter := c.Counters[a.Counter]
	return within(a.Time, 1, counter.Max) && (a.Cycle == 0 || within(a.Cycle, counter.Min, counter.Max))
}
