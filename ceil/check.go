package ceil

import "tappet/api"

// look answers P8.1's error; without one, for which resource each stands at its end.
func look(c api.Config) (ends, api.Errno) {
	if !namesMeet(c) || !linksMeet(c.Resources) {
		return nil, api.ErrRefs
	}
	found, ok := endsOf(c.Resources)
	switch {
	case !ok:
		return nil, api.ErrLinks
	case !linksFit(c.Resources, found) || !namesFit(c):
		return nil, api.ErrInternal
	}
	return found, api.OK
}

// lookAt is look for those who ask about one resource.
func lookAt(c api.Config, resource int) (ends, api.Errno) {
	found, e := look(c)
	if e == api.OK && !isID(resource, len(c.Resources)) {
		return nil, api.ErrArg
	}
	return found, e
}

func isID(id, n int) bool { return 0 <= id && id < n }

// namesMeet tells whether all lists rise and name resources that there are.
func namesMeet(c api.Config) bool {
	meet := true
	eachUser(c, func(u user) { meet = meet && rises(u.resources, len(c.Resources)) })
	return meet
}

// rises tells whether each number is greater than the one ahead, and all of them are below n.
func rises(l []int, n int) bool {
	ahead := -1
	for _, id := range l {
		if id <= ahead || id >= n {
			return false
		}
		ahead = id
	}
	return true
}

// linksMeet tells whether each resource is of a kind, and each linked one leads to a resource; the links of others are not looked at.
func linksMeet(l []api.Resource) bool {
	for _, r := range l {
		switch r.Kind {
		case api.ResStandard, api.ResInternal:
		case api.ResLinked:
			if !isID(r.Link, len(l)) {
				return false
			}
		default:
			return false
		}
	}
	return true
}

// linksFit tells whether no linked resource stands for an internal one.
func linksFit(l []api.Resource, found ends) bool {
	for id, r := range l {
		if r.Kind == api.ResLinked && l[found[id]].Kind == api.ResInternal {
			return false
		}
	}
	return true
}

// namesFit tells whether no task names more than one internal resource, and no interrupt any.
func namesFit(c api.Config) bool {
	fit := true
	eachUser(c, func(u user) {
		most := 1
		if u.isr {
			most = 0
		}
		fit = fit && len(u.resources)-len(taken(c, u.resources)) <= most
	})
	return fit
}
