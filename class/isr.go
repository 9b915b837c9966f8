package class

import "tappet/api"

func isrChecks() []check {
	return []check{
		{api.ErrValue, isrNumbersFit},
		{api.ErrRef, isrListsRise},
		{api.ErrRule, noInternal},
		{api.ErrRule, firstCategoryIsBare},
		{api.ErrRule, isrsAreInOrder},
	}
}

func isrNumbersFit(c api.Config, id int) bool {
	x := c.Isrs[id]
	return within(x.Category, 1, 2) && within(x.Priority, api.IsrBase, api.MaxIsr)
}

func isrListsRise(c api.Config, id int) bool {
	x := c.Isrs[id]
	return rises(x.Resources, len(c.Resources)) && rises(x.Messages, len(c.Messages))
}

func noInternal(c api.Config, id int) bool { return internals(c, c.Isrs[id].Resources) == 0 }

func firstCategoryIsBare(c api.Config, id int) bool {
	x := c.Isrs[id]
	return x.Category != 1 || len(x.Resources) == 0 && len(x.Messages) == 0
}

// isrsAreInOrder tells whether an ISR's priority is its own among those ahead, with all of category 1 above all of category 2.
func isrsAreInOrder(c api.Config, id int) bool {
	x := c.Isrs[id]
	for _, ahead := range c.Isrs[:id] {
		if ahead.Priority == x.Priority || ahead.Category != x.Category && (ahead.Category > x.Category) == (ahead.Priority > x.Priority) {
			return false
		}
	}
	return true
}
