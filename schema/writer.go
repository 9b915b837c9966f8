package schema

import "tappet/api"

// version is that of the OIL in which trees are written.
const version = "2.5"

// writer writes items as objects; what it answers is right only where it answers true: where Read could give what it was handed.
type writer struct {
	table []api.Row
}

func (w *writer) tree(s api.Sheet) (api.Tree, bool) {
	t := api.Tree{Version: version, CPU: s.CPU}
	for _, item := range s.Items {
		o, ok := w.object(item)
		if !ok {
			return api.Tree{}, false
		}
		t.Objects = append(t.Objects, o)
	}
	return t, isName(s.CPU)
}

func (w *writer) object(item api.Item) (api.Object, bool) {
	if !known(item.Kind) || !isName(item.Name) {
		return api.Object{}, false
	}
	l, ok := w.attrs(rowsAt(w.table, place{object: item.Kind}), item.Entries)
	return api.Object{Kind: item.Kind, Name: item.Name, Attrs: l}, ok
}

// attrs writes the entries of a place, which must stand in the order of its rows, each as often as it may.
func (w *writer) attrs(rows []api.Row, l []api.Entry) ([]api.Attr, bool) {
	var out []api.Attr
	for _, row := range rows {
		n := leading(l, row.Name)
		if row.Times != api.Any && n != 1 {
			return nil, false
		}
		for _, e := range l[:n] {
			a, ok := w.attr(row, e)
			if !ok {
				return nil, false
			}
			out = append(out, a)
		}
		l = l[n:]
	}
	return out, len(l) == 0
}

// leading tells how many entries of a name stand ahead of all others.
func leading(l []api.Entry, name string) int {
	n := 0
	for n < len(l) && l[n].Name == name {
		n++
	}
	return n
}

func (w *writer) attr(row api.Row, e api.Entry) (api.Attr, bool) {
	v := valueOf(row, e)
	if !says(row, e, v) {
		return api.Attr{}, false
	}
	rows := rowsAt(w.table, inside(row, e.Word))
	params, ok := w.attrs(rows, e.Params)
	return api.Attr{Name: row.Name, Value: v, Braced: len(rows) > 0, Params: params}, ok
}
