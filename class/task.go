package class

import "tappet/api"

func taskChecks() []check {
	return []check{
		{api.ErrValue, taskNumbersFit},
		{api.ErrRef, taskListsRise},
		{api.ErrOver, taskEventsFit},
		{api.ErrRule, extendedIsSingle},
		{api.ErrRule, oneInternal},
		{api.ErrRule, masksAreApart},
	}
}

func taskNumbersFit(c api.Config, id int) bool {
	t := c.Tasks[id]
	return within(t.Priority, 0, api.MaxPriority) && within(t.Activation, 1, api.MaxActivate)
}

func taskListsRise(c api.Config, id int) bool {
	t := c.Tasks[id]
	return rises(t.Auto, len(c.Modes)) && rises(t.Resources, len(c.Resources)) &&
		rises(t.Events, len(c.Events)) && rises(t.Messages, len(c.Messages))
}

func taskEventsFit(c api.Config, id int) bool { return len(c.Tasks[id].Events) <= api.TaskEvents }

func extendedIsSingle(c api.Config, id int) bool {
	return !Extended(c, id) || c.Tasks[id].Activation == 1
}

func oneInternal(c api.Config, id int) bool { return internals(c, c.Tasks[id].Resources) <= 1 }

func masksAreApart(c api.Config, id int) bool {
	var taken uint32
	for _, event := range c.Tasks[id].Events {
		mask := c.Events[event].Mask
		if taken&mask != 0 {
			return false
		}
		taken |= mask
	}
	return true
}
