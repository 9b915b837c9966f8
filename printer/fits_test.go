package printer_test

import (
	"reflect"
	"slices"
	"strings"
	"testing"

	"tappet/api"
	"tappet/printer"
	"tappet/tree"
)

// spoiling makes one thing of a tree wrong.
type spoiling func(t *api.Tree)

// place is a thing of a tree that can be at fault, where it stands, and how it can be spoilt.
type place struct {
	what  string
	steps []int
	by    []spoiling
}

func badNames() []string {
	return []string{"1a", "", " ", "a b", "a-b", "a.b", "a\n", "\x00", "a\x80", "ä", `"a"`, ";", "9", strings.Repeat("a", api.MaxName+1)}
}

func badStrings() []string {
	return []string{"\n", "\x00", "a\x1f", "\x7fb", "é", "\xff", "\t", strings.Repeat("a", api.MaxString+1), "\u20ac"}
}

// badValues are those that are no token, though some of them are one but for a field.
func badValues() []api.Value {
	var l []api.Value
	for _, k := range []api.ValueKind{-1, 0, 4, 5, 6, 7, 8, 9, 1 << 40} {
		l = append(l, api.Value{Kind: k}, api.Value{Kind: k, Text: "a"}, api.Value{Kind: k, Number: 1})
	}
	for _, v := range []api.Value{named("a"), said("a"), said("")} {
		number, hex, both := v, v, v
		number.Number, both.Number = 1, 1
		hex.Hex, both.Hex = true, true
		l = append(l, number, hex, both)
	}
	for _, v := range []api.Value{number(1), number(0), hexed(1)} {
		v.Text = "1"
		l = append(l, v)
	}
	for _, s := range badNames() {
		l = append(l, named(s))
	}
	for _, s := range badStrings() {
		l = append(l, said(s))
	}
	return l
}

// spoilStrings sets a thing to each of some texts.
func spoilStrings(bad []string, of func(t *api.Tree) *string) []spoiling {
	var l []spoiling
	for _, s := range bad {
		l = append(l, func(t *api.Tree) { *of(t) = s })
	}
	return l
}

// spoilNote makes a description one that no text has, or takes away that there is one.
func spoilNote(of func(t *api.Tree) (*bool, *string)) []spoiling {
	l := spoilStrings(badStrings(), func(t *api.Tree) *string { _, s := of(t); return s })
	return append(l, func(t *api.Tree) {
		noted, note := of(t)
		*noted, *note = false, "n"
	}, func(t *api.Tree) {
		noted, note := of(t)
		*noted, *note = false, "\n"
	})
}

// attrPlaces are the places of attributes and of those in them, in the text's order.
func attrPlaces(l []api.Attr, steps []int) []place {
	var all []place
	for i, a := range l {
		own := append(slices.Clone(steps), i)
		of := func(t *api.Tree) *api.Attr { return attrAt(t, own) }
		all = append(all, place{"an attribute's name", own, spoilStrings(badNames(), func(t *api.Tree) *string { return &of(t).Name })})
		value := place{what: "a value", steps: own}
		for _, v := range badValues() {
			value.by = append(value.by, func(t *api.Tree) { of(t).Value = v })
		}
		all = append(all, value)
		if len(a.Params) > 0 {
			all = append(all, place{"parameters without braces", own, []spoiling{func(t *api.Tree) { of(t).Braced = false }}})
		}
		all = append(all, attrPlaces(a.Params, own)...)
		all = append(all, place{"an attribute's description", own, spoilNote(func(t *api.Tree) (*bool, *string) { return &of(t).Noted, &of(t).Note })})
	}
	return all
}

// places are all of a tree that can be at fault, in the text's order.
func places(t api.Tree) []place {
	all := []place{
		{"the version", nil, spoilStrings(badStrings(), func(t *api.Tree) *string { return &t.Version })},
		{"the CPU", nil, spoilStrings(badNames(), func(t *api.Tree) *string { return &t.CPU })},
	}
	for i, o := range t.Objects {
		own := []int{i}
		of := func(t *api.Tree) *api.Object { return &t.Objects[i] }
		all = append(all,
			place{"an object's kind", own, spoilStrings(badNames(), func(t *api.Tree) *string { return &of(t).Kind })},
			place{"an object's name", own, spoilStrings(badNames(), func(t *api.Tree) *string { return &of(t).Name })})
		all = append(all, attrPlaces(o.Attrs, own)...)
		all = append(all, place{"an object's description", own, spoilNote(func(t *api.Tree) (*bool, *string) { return &of(t).Noted, &of(t).Note })})
	}
	return append(all, place{"the CPU's description", nil, spoilNote(func(t *api.Tree) (*bool, *string) { return &t.Noted, &t.Note })})
}

// P4.1, P4.2: each thing of a tree at fault alone, in each way; and none of them has been at fault before.
func TestFitsOfEachThing(t *testing.T) {
	for _, whole := range []func() api.Tree{carTree, fullTree} {
		sound(t, printer.Fits(whole()))
		all := places(whole())
		for _, p := range all {
			for i, spoil := range p.by {
				x := whole()
				spoil(&x)
				if f := printer.Fits(x); f.Code != api.ErrTree || !slices.Equal(f.Steps, p.steps) {
					t.Errorf("%s at %v, spoilt in way %d: Fits: %v", p.what, p.steps, i, f)
				}
				if s, f := printer.Print(x); s != "" || f.Code != api.ErrTree || !slices.Equal(f.Steps, p.steps) {
					t.Errorf("%s at %v, spoilt in way %d: Print: %q %v", p.what, p.steps, i, s, f)
				}
			}
		}
	}
}

// P4.1: of two things at fault the first one in the text's order is told.
func TestFitsTellsTheFirst(t *testing.T) {
	all := places(fullTree())
	if len(all) < 49 {
		t.Fatal("only", len(all), "places")
	}
	for i, p := range all {
		for _, q := range all[i+1:] {
			x := fullTree()
			// The description is spoilt by its last way, the flag, so that both ways of it have their turn.
			p.by[len(p.by)-1](&x)
			q.by[0](&x)
			if f := printer.Fits(x); f.Code != api.ErrTree || !slices.Equal(f.Steps, p.steps) {
				t.Errorf("%s at %v and %s at %v: %v", p.what, p.steps, q.what, q.steps, f)
			}
		}
	}
}

// P4.1: all at fault at once, mended one by one from the first on.
func TestFitsOfAllMendedOneByOne(t *testing.T) {
	all := places(fullTree())
	for i := range all {
		x := fullTree()
		for _, p := range all[i:] {
			p.by[0](&x)
		}
		refused(t, x, all[i].steps...)
	}
}

// P4.1: what just fits, at each place.
func TestFitsOfEdges(t *testing.T) {
	every := make([]byte, 0, 95)
	for b := byte(32); b <= 126; b++ {
		every = append(every, b)
	}
	names := []string{"a", "_", "Z9", "TRUE", "CPU", "OIL_VERSION", strings.Repeat("z", api.MaxName)}
	texts := []string{"", " ", string(every), strings.Repeat("~", api.MaxString), strings.Repeat(`"`, api.MaxString), `\`}
	for _, s := range names {
		x := holding(api.Attr{Name: s, Value: named(s)})
		x.CPU, x.Objects[0].Kind, x.Objects[0].Name = s, s, s
		sound(t, printer.Fits(x))
	}
	for _, s := range texts {
		x := holding(api.Attr{Name: "A", Value: said(s), Noted: true, Note: s})
		x.Version, x.Noted, x.Note = s, true, s
		x.Objects[0].Noted, x.Objects[0].Note = true, s
		sound(t, printer.Fits(x))
	}
	for _, v := range []api.Value{number(0), number(api.MaxNumber), hexed(0), hexed(api.MaxNumber)} {
		sound(t, printer.Fits(holding(api.Attr{Name: "A", Value: v})))
	}
	sound(t, printer.Fits(api.Tree{CPU: "c"}))
	sound(t, printer.Fits(api.Tree{CPU: "c", Objects: []api.Object{}}))
	refused(t, api.Tree{})
	refused(t, api.Tree{CPU: "c", Objects: make([]api.Object, 1)}, 0)
	refused(t, holding(api.Attr{}), 0, 0)
}

// P4.1: spots are not looked at.
func TestFitsWhateverTheSpots(t *testing.T) {
	for _, at := range []api.Spot{{}, {Off: -1, Line: -1, Col: -1}, {Off: 1 << 62, Line: 1, Col: 1}} {
		x := fullTree()
		leaves(reflect.ValueOf(&x).Elem(), false, func(leaf reflect.Value, inSpot bool) {
			if inSpot {
				leaf.SetInt(int64(at.Off))
			}
		})
		sound(t, printer.Fits(x))
	}
}

// P4.1: how deep braces may be, and which attribute is at fault where they are deeper: in the last of these a deeper fault is of no weight.
func TestFitsOfDepth(t *testing.T) {
	for n := range api.MaxDepth + 1 {
		sound(t, printer.Fits(holding(nested(n), nested(n))))
	}
	for n := api.MaxDepth + 1; n < api.MaxDepth+5; n++ {
		refused(t, holding(nested(n)), 0, 0, 0, 0, 0, 0)
		x := holding(nested(api.MaxDepth), nested(0), nested(n))
		x.Objects = append([]api.Object{{Kind: "K", Name: "k"}}, x.Objects...)
		refused(t, x, 1, 2, 0, 0, 0, 0)
	}
	// Braces at the fifth depth are at fault with and without parameters, and behind siblings.
	for _, last := range []api.Attr{{Name: "B", Value: named("b"), Braced: true}, {Name: "B", Value: named("b"), Braced: true, Params: []api.Attr{{Name: "1"}}}} {
		x := holding(nested(api.MaxDepth))
		deepest := attrAt(&x, []int{0, 0, 0, 0, 0})
		deepest.Params = []api.Attr{nested(0), nested(0), last}
		refused(t, x, 0, 0, 0, 0, 0, 2)
		// Name and value come ahead of the braces, the description behind them.
		deepest.Params[2].Noted, deepest.Params[2].Note = true, "\n"
		refused(t, x, 0, 0, 0, 0, 0, 2)
		deepest.Params[1].Value.Kind = 0
		refused(t, x, 0, 0, 0, 0, 0, 1)
	}
	// Parameters without braces are at fault themselves at the fifth depth, too; no braces and no parameters are not.
	x := holding(nested(api.MaxDepth + 1))
	a := attrAt(&x, []int{0, 0, 0, 0, 0, 0})
	a.Braced, a.Params = false, []api.Attr{nested(0)}
	refused(t, x, 0, 0, 0, 0, 0, 0)
	a.Params = []api.Attr{}
	sound(t, printer.Fits(x))
}

// P4.1: numbers of many objects and attributes.
func TestFitsTellsGreatNumbers(t *testing.T) {
	x := holding(nested(1))
	x.Objects = slices.Repeat(x.Objects, 300)
	x.Objects[299].Attrs = slices.Repeat([]api.Attr{nested(2)}, 400)
	x.Objects[299].Attrs[399].Params = slices.Repeat([]api.Attr{nested(0)}, 500)
	sound(t, printer.Fits(x))
	x.Objects[299].Attrs[399].Params[499].Name = ""
	refused(t, x, 299, 399, 499)
	x.Objects[299].Attrs[398].Note = "a"
	refused(t, x, 299, 398)
}

// P4.1: the chapter's examples of faults.
func TestFitsOfTheExamples(t *testing.T) {
	x := carTree()
	x.Noted = false
	refused(t, x)
	x = carTree()
	x.Objects[1].Attrs[0].Name = "1a"
	refused(t, x, 1, 0)
	x = carTree()
	x.Version = "2\n5"
	refused(t, x)
	refused(t, holding(nested(api.MaxDepth+1)), 0, 0, 0, 0, 0, 0)
}

// P4.1: a tree fits just if a text has it: that in which it is written down as it stands, if any.
func TestFitsJustIfATextHasTheTree(t *testing.T) {
	fit, unfit := 0, 0
	for seed := range 3000 {
		m := maker{chance(seed)}
		x := m.tree()
		for m.below(2) == 0 {
			all := places(x)
			p := all[m.below(len(all))]
			p.by[m.below(len(p.by))](&x)
		}
		got, f := tree.Parse(plainly(x, layout))
		has := f.Code == api.OK && printer.Same(got, x)
		flaw := printer.Fits(x)
		if (flaw.Code == api.OK) != has {
			t.Errorf("%+v: Fits: %v; a text has it: %v", x, flaw, has)
		}
		if has {
			fit++
		} else {
			unfit++
		}
	}
	if fit < 1000 || unfit < 1000 {
		t.Error(fit, "trees fit,", unfit, "do not")
	}
}

// R3: Steps are the caller's own, and the tree is left as it is.
func TestFitsKeepsAndChangesNothing(t *testing.T) {
	broken := func() api.Tree {
		x := fullTree()
		x.Objects[1].Attrs[1].Params[1].Params[0].Name = ""
		return x
	}
	x := broken()
	f, g := printer.Fits(x), printer.Fits(x)
	f.Steps[0], f.Steps[3] = 77, 77
	_ = append(f.Steps[:2], 99, 99)
	if !slices.Equal(g.Steps, []int{1, 1, 1, 0}) || !slices.Equal(printer.Fits(x).Steps, g.Steps) {
		t.Error("Steps are shared:", g)
	}
	if !reflect.DeepEqual(x, broken()) {
		t.Error("the tree was changed")
	}
}
