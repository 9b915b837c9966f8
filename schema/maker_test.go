package schema_test

import (
	"slices"
	"strconv"
	"strings"

	"tappet/api"
)

// right is a value that a line takes: its n-th, as far as there are several.
func (l line) right(n int) api.Value {
	lo, hi := l.bounds1()
	words := l.words()
	switch {
	case l.orAuto() && n%3 == 2:
		return named("AUTO")
	case l.numeric():
		return number([]uint32{lo, hi}[n%2])
	case l.value[0] == "text" && len(words) > 0:
		return said(words[n%len(words)])
	case l.value[0] == "text":
		return said("f" + strconv.Itoa(n))
	case l.value[0] == "ref":
		return named("r" + strconv.Itoa(n))
	}
	return named(words[n%len(words)])
}

func (l line) bounds1() (lo, hi uint32) {
	if !l.numeric() {
		return 0, 0
	}
	return l.bounds()
}

// least are the attributes that must stand at a place, with the word of an attribute that has parameters, if it is told.
func least(object string, under, word [2]string) []api.Attr {
	var l []api.Attr
	for _, r := range linesAt(object, under) {
		if told := r.name == word[0]; r.once() || told {
			v := r.right(0)
			if told {
				v = named(word[1])
			}
			a := is(r.name, v)
			a.Params = least(object, [2]string{r.name, v.Text}, [2]string{})
			a.Braced = told && len(linesAt(object, [2]string{r.name, v.Text})) > 0 || len(a.Params) > 0
			l = append(l, a)
		}
	}
	return l
}

// leastWith is a tree of one object of a line's kind, in which all stands that must, and the braces, if it stands in some.
func leastWith(r line) api.Tree {
	return holding(object(r.object, least(r.object, [2]string{}, r.under)...))
}

// listOf is where in such a tree the attributes of the line's place stand, and the spot of what they belong to.
func listOf(x *api.Tree, r line) (*[]api.Attr, api.Spot) {
	o := &x.Objects[0]
	if r.under[0] == "" {
		return &o.Attrs, o.At
	}
	for i := range o.Attrs {
		if o.Attrs[i].Name == r.under[0] {
			return &o.Attrs[i].Params, o.Attrs[i].At
		}
	}
	return nil, api.Spot{}
}

// setOf is such a tree, sown, in which a line's attribute has a value (with the parameters that it must have, if any), and where it stands.
func setOf(r line, v api.Value) (api.Tree, *api.Attr) {
	x := leastWith(r)
	list, _ := listOf(&x, r)
	*list = slices.DeleteFunc(*list, func(a api.Attr) bool { return a.Name == r.name })
	a := is(r.name, v)
	if v.Kind == api.ValueName {
		a.Params = least(r.object, [2]string{r.name, v.Text}, [2]string{})
		a.Braced = len(a.Params) > 0
	}
	*list = append(*list, a)
	x = sown(x)
	list, _ = listOf(&x, r)
	return x, &(*list)[len(*list)-1]
}

// entryIn is the entry of a line's attribute in a sheet of such a tree.
func entryIn(s api.Sheet, r line) []api.Entry {
	if len(s.Items) != 1 {
		return nil
	}
	l := s.Items[0].Entries
	if r.under[0] != "" {
		i := slices.IndexFunc(l, func(e api.Entry) bool { return e.Name == r.under[0] })
		if i < 0 {
			return nil
		}
		l = l[i].Params
	}
	return slices.DeleteFunc(slices.Clone(l), func(e api.Entry) bool { return e.Name != r.name })
}

// maker makes trees by chance.
type maker struct{ chance }

func (m *maker) value(r line) api.Value {
	lo, hi := r.bounds1()
	switch {
	case r.numeric() && (!r.orAuto() || m.below(2) == 0):
		return api.Value{Kind: api.ValueNumber, Number: pick(&m.chance, lo, hi, lo+uint32(m.below(int(hi-lo)+1))), Hex: m.below(2) == 0}
	case r.value[0] == "ref":
		return named(pick(&m.chance, goodNames()...))
	case r.value[0] == "text" && len(r.words()) == 0:
		return said(pick(&m.chance, goodStrings()...))
	}
	return r.right(m.below(60))
}

// attrs makes attributes that may stand at a place, in any order.
func (m *maker) attrs(object string, under [2]string) []api.Attr {
	var l []api.Attr
	for _, r := range linesAt(object, under) {
		n := 1
		if r.any() {
			n = m.below(4)
		} else if !r.once() {
			n = m.below(2)
		}
		for range n {
			a := is(r.name, m.value(r))
			inner := linesAt(object, [2]string{r.name, a.Value.Text})
			if a.Value.Kind == api.ValueName && len(inner) > 0 {
				a.Braced = m.below(2) == 0 || slices.ContainsFunc(inner, line.once)
			}
			if a.Braced {
				a.Params = m.attrs(object, [2]string{r.name, a.Value.Text})
			}
			if m.below(3) == 0 {
				a.Noted, a.Note = true, "n"
			}
			l = append(l, a)
		}
	}
	shuffle(&m.chance, l)
	return l
}

func (m *maker) tree() api.Tree {
	t := api.Tree{Version: pick(&m.chance, "2.5", "", "3.0"), CPU: pick(&m.chance, goodNames()...)}
	for range m.below(5) {
		kind := pick(&m.chance, strings.Fields(printedKinds)...)
		t.Objects = append(t.Objects, api.Object{Kind: kind, Name: pick(&m.chance, goodNames()...), Attrs: m.attrs(kind, [2]string{}), Noted: m.below(2) == 0})
	}
	return sown(t)
}

// list is one of the lists of attributes of a tree, by chance; nil, if it has no object.
func (m *maker) list(t *api.Tree) *[]api.Attr {
	if len(t.Objects) == 0 {
		return nil
	}
	l := &t.Objects[m.below(len(t.Objects))].Attrs
	for m.below(2) == 0 && len(*l) > 0 {
		a := &(*l)[m.below(len(*l))]
		if !a.Braced {
			break
		}
		l = &a.Params
	}
	return l
}

// spoil turns one thing of a tree, which may be wrong then.
func (m *maker) spoil(t *api.Tree) {
	l := m.list(t)
	if l == nil {
		return
	}
	if m.below(20) == 0 {
		o := &t.Objects[m.below(len(t.Objects))]
		o.Kind = pick(&m.chance, append(strings.Fields(printedKinds), "THING", "", "os", "task")...)
		return
	}
	n := len(*l)
	if n == 0 || m.below(6) == 0 {
		r := lines[m.below(len(lines))]
		*l = append(*l, is(r.name, m.value(r)))
		return
	}
	a := &(*l)[m.below(n)]
	other := (*l)[m.below(n)]
	switch m.below(7) {
	case 0:
		*l = slices.DeleteFunc(*l, func(b api.Attr) bool { return b.Name == a.Name })
	case 1:
		*l = append(*l, other)
	case 2:
		a.Braced = !a.Braced
	case 3:
		a.Name = pick(&m.chance, lines[m.below(len(lines))].name, "COLOUR", "", strings.ToLower(a.Name))
	case 4:
		a.Value.Kind = api.ValueKind(m.below(6) - 1)
	case 5:
		r := lines[m.below(len(lines))]
		a.Value = m.value(r)
	case 6:
		a.Value.Number = pick[uint32](&m.chance, 0, 1, 2, 3, 16, 17, 63, 64, 127, 128, 255, 256, 1<<31-1, 1<<31, 1<<32-1)
	}
}
