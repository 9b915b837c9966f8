package ceil_test

import (
	"math"
	"slices"

	"tappet/api"
)

// maker makes configurations by chance.
type maker struct{ chance }

// priority is any number, such as many share, and such as lie at the edges.
func (m *maker) priority() int {
	return pick(&m.chance, m.below(4), m.below(64), 64+m.below(64), m.below(200)-100, -1-m.below(4), -1, 0, math.MinInt, math.MaxInt, math.MinInt+m.below(3))
}

// ids are some of n numbers, rising, to which a function does not object.
func (m *maker) ids(n int, fits func(id int) bool) []int {
	var l []int
	odds := 1 + m.below(4)
	for id := range n {
		if m.below(odds) == 0 && fits(id) {
			l = append(l, id)
		}
	}
	return l
}

// config makes a configuration that Check takes.
func (m *maker) config() api.Config {
	c := api.Config{OS: api.Os{Schedule: m.yes()}, Resources: m.resources(m.below(9))}
	for range m.below(6) {
		room := 1
		c.Tasks = append(c.Tasks, api.Task{Priority: m.priority(), Full: m.yes(), Resources: m.ids(len(c.Resources), func(id int) bool {
			if c.Resources[id].Kind == internal {
				room--
			}
			return c.Resources[id].Kind != internal || room == 0
		})})
	}
	for range m.below(4) {
		c.Isrs = append(c.Isrs, api.Isr{Priority: m.priority(), Resources: m.ids(len(c.Resources), func(id int) bool { return c.Resources[id].Kind != internal })})
	}
	return c
}

// resources: a linked one stands for one that came ahead of it by chance, not by its number.
func (m *maker) resources(n int) []api.Resource {
	l := make([]api.Resource, n)
	order := make([]int, n)
	for i := range order {
		order[i] = i
	}
	shuffle(&m.chance, order)
	var targets []int
	for _, id := range order {
		r := api.Resource{Kind: pick(&m.chance, std, linked, linked, internal), Link: pick(&m.chance, 0, 1, -1, m.below(n), math.MaxInt)}
		if r.Kind == linked && len(targets) == 0 {
			r.Kind = std
		}
		if r.Kind == linked {
			r.Link = pick(&m.chance, targets...)
			if m.yes() {
				r.Link = targets[len(targets)-1]
			}
		}
		if r.Kind != internal {
			targets = append(targets, id)
		}
		l[id] = r
	}
	return l
}

// spoil turns one thing, behind which Check may object.
func (m *maker) spoil(c *api.Config) {
	switch m.below(4) {
	case 0:
		if n := len(c.Resources); n > 0 {
			c.Resources[m.below(n)].Kind = pick(&m.chance, std, linked, linked, internal, internal, internal, 0, 4, -1, 1<<32+2)
		}
	case 1:
		if n := len(c.Resources); n > 0 {
			r := &c.Resources[m.below(n)]
			r.Kind, r.Link = linked, pick(&m.chance, m.below(n), m.below(n), m.below(n), m.below(n), -1, n, math.MinInt, math.MaxInt)
		}
	case 2:
		if n := len(c.Tasks); n > 0 {
			x := &c.Tasks[m.below(n)]
			x.Resources = m.spoilt(x.Resources, len(c.Resources))
		}
	case 3:
		if n := len(c.Isrs); n > 0 {
			x := &c.Isrs[m.below(n)]
			x.Resources = m.spoilt(x.Resources, len(c.Resources))
		}
	}
}

func (m *maker) spoilt(ids []int, n int) []int {
	ids = slices.Clone(ids)
	switch m.below(6) {
	case 0:
		shuffle(&m.chance, ids)
	case 1:
		if len(ids) > 0 {
			ids = append(ids, ids[m.below(len(ids))])
		}
		slices.Sort(ids)
	case 2:
		ids = append(ids, pick(&m.chance, -1, 0, n-1, n, n+1, math.MinInt, math.MaxInt))
	default:
		ids = append(ids, m.below(n+1), m.below(n+1))
		slices.Sort(ids)
		ids = slices.DeleteFunc(slices.Compact(ids), func(id int) bool { return id == n && m.below(4) > 0 })
	}
	return ids
}
