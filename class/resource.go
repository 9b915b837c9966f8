package class

import "tappet/api"

func resourceChecks() []check {
	return []check{
		{api.ErrValue, resourceHasKind},
		{api.ErrValue, linkIsUsed},
		{api.ErrRef, linkIsID},
		{api.ErrRule, linkEnds},
	}
}

func resourceHasKind(c api.Config, id int) bool {
	return within(c.Resources[id].Kind, api.ResStandard, api.ResInternal)
}

func linkIsUsed(c api.Config, id int) bool {
	r := c.Resources[id]
	return r.Kind == api.ResLinked || r.Link == 0
}

// linkIsID needs no look at the kind: a link that is not used is 0 here, and this resource is there.
func linkIsID(c api.Config, id int) bool { return isID(c.Resources[id].Link, len(c.Resources)) }

// linkEnds asks of the end that it is standard: links further on may be at fault in any way, their resources were not looked at yet.
func linkEnds(c api.Config, id int) bool {
	if c.Resources[id].Kind != api.ResLinked {
		return true
	}
	root := Root(c, id)
	return root >= 0 && c.Resources[root].Kind == api.ResStandard
}

func eventChecks() []check {
	return []check{{api.ErrValue, maskIsSome}}
}

func maskIsSome(c api.Config, id int) bool { return c.Events[id].Mask != 0 }
