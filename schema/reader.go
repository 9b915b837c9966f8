package schema

import (
	"cmp"
	"slices"

	"tappet/api"
)

// reader reads objects, one behind the other.
type reader struct {
	table []api.Row
	stood map[slot]int // how often attributes stood in the object that is read
}

// slot is an attribute at a place of the object that is read. No attribute that may stand several times has parameters, so that an object has each place at most once.
type slot struct {
	under [2]string
	name  string
}

func slotOf(row api.Row) slot { return slot{under: row.Under, name: row.Name} }

func (r *reader) sheet(t api.Tree) (api.Sheet, error) {
	s := api.Sheet{CPU: t.CPU}
	for _, o := range t.Objects {
		item, err := r.item(o)
		if err != nil {
			return api.Sheet{}, err
		}
		s.Items = append(s.Items, item)
	}
	return s, nil
}

func (r *reader) item(o api.Object) (api.Item, error) {
	if !known(o.Kind) {
		return api.Item{}, &misread{reason: errObject, at: o.At, name: o.Kind}
	}
	clear(r.stood)
	l, err := r.entries(place{object: o.Kind}, o.Attrs, o.At)
	if err != nil {
		return api.Item{}, err
	}
	return api.Item{Kind: o.Kind, Name: o.Name, At: o.At, Entries: l}, nil
}

// entries reads the attributes at a place; at is the spot of what they belong to.
func (r *reader) entries(p place, l []api.Attr, at api.Spot) ([]api.Entry, error) {
	rows := rowsAt(r.table, p)
	var read []api.Entry
	for _, a := range l {
		e, err := r.entry(rows, a)
		if err != nil {
			return nil, err
		}
		read = append(read, e)
	}
	return r.arranged(rows, read, at)
}

func (r *reader) entry(rows []api.Row, a api.Attr) (api.Entry, error) {
	i := slices.IndexFunc(rows, func(row api.Row) bool { return row.Name == a.Name })
	if i < 0 {
		return api.Entry{}, &misread{reason: errAttr, at: a.At, name: a.Name}
	}
	row := rows[i]
	e, unsuited := entryOf(row, a.Value)
	behind := inside(row, e.Word)
	if why := cmp.Or(r.count(row), unsuited, r.checkBraces(behind, a.Braced)); why != nil {
		return api.Entry{}, &misread{reason: why, at: a.At, name: a.Name}
	}
	params, err := r.entries(behind, inBraces(a), a.At)
	if err != nil {
		return api.Entry{}, err
	}
	e.At, e.Params = a.At, params
	return e, nil
}

// count notes that an attribute stands here, unless it may not once more.
func (r *reader) count(row api.Row) error {
	if row.Times != api.Any && r.stood[slotOf(row)] > 0 {
		return errRepeated
	}
	r.stood[slotOf(row)]++
	return nil
}

func (r *reader) checkBraces(behind place, braced bool) error {
	rows := rowsAt(r.table, behind)
	if braced && len(rows) == 0 {
		return errBraces
	}
	if !braced && slices.ContainsFunc(rows, func(row api.Row) bool { return row.Times == api.Once }) {
		return errBraces
	}
	return nil
}

// inBraces answers an attribute's parameters; without braces none of those that a tree has count.
func inBraces(a api.Attr) []api.Attr {
	if !a.Braced {
		return nil
	}
	return a.Params
}

// arranged lays what was read at a place by the table's order, with what was left out filled in; at is the spot of what it belongs to.
func (r *reader) arranged(rows []api.Row, read []api.Entry, at api.Spot) ([]api.Entry, error) {
	var l []api.Entry
	for _, row := range rows {
		switch {
		case r.stood[slotOf(row)] > 0:
			l = appendNamed(l, read, row.Name)
		case row.Times == api.Once:
			return nil, &misread{reason: errMissing, at: at, name: row.Name}
		case row.Times == api.Maybe:
			l = append(l, byDefault(row))
		}
	}
	return l, nil
}

// appendNamed appends those of some entries that have a name.
func appendNamed(l, from []api.Entry, name string) []api.Entry {
	for _, e := range from {
		if e.Name == name {
			l = append(l, e)
		}
	}
	return l
}
