package printer_test

import (
	"reflect"
	"slices"
	"testing"

	"tappet/api"
	"tappet/printer"
)

// P4.4: all spots are zero, all else is as it was, also of trees that no text has.
func TestPlainZeroesSpotsAlone(t *testing.T) {
	wrong := holding(nested(api.MaxDepth + 3))
	turnAll(&wrong)
	loose := fullTree()
	loose.Objects[1].Attrs[1].Braced = false
	for _, x := range []api.Tree{carTree(), fullTree(), wrong, loose, {}} {
		want := printer.Plain(x)
		leaves(reflect.ValueOf(&want).Elem(), false, func(leaf reflect.Value, inSpot bool) {
			if inSpot && !leaf.IsZero() {
				t.Error("a spot is left in", want)
			}
		})
		y := x
		y.Objects = slices.Clone(y.Objects)
		for i := range y.Objects {
			y.Objects[i].At = api.Spot{}
			y.Objects[i].Attrs = spotless(y.Objects[i].Attrs)
		}
		if !reflect.DeepEqual(filled(want), filled(y)) {
			t.Errorf("%+v, not %+v", want, y)
		}
	}
}

func spotless(l []api.Attr) []api.Attr {
	var m []api.Attr
	for _, a := range l {
		a.At, a.Params = api.Spot{}, spotless(a.Params)
		m = append(m, a)
	}
	return m
}

// P4.4, R3: the answer is new memory in all depths: who turns it does not turn the tree, nor the other way round; two answers are two.
func TestPlainIsNewMemory(t *testing.T) {
	x := fullTree()
	p, q := printer.Plain(x), printer.Plain(x)
	if !reflect.DeepEqual(x, fullTree()) {
		t.Error("the tree was changed")
	}
	turnAll(&p)
	if !reflect.DeepEqual(x, fullTree()) || !reflect.DeepEqual(q, printer.Plain(fullTree())) {
		t.Error("what was turned in the answer is turned elsewhere")
	}
	turnAll(&x)
	if !reflect.DeepEqual(q, printer.Plain(fullTree())) {
		t.Error("what was turned in the tree is turned in the answer")
	}
}

// P4.4, R3: lists of a tree that share memory do not in the answer.
func TestPlainPartsSharedLists(t *testing.T) {
	shared := []api.Attr{nested(1), nested(2)}
	x := holding(api.Attr{Name: "A", Value: number(1), Braced: true, Params: shared}, api.Attr{Name: "B", Value: number(1), Braced: true, Params: shared})
	x.Objects = append(x.Objects, api.Object{Kind: "K", Name: "k", Attrs: shared})
	p := printer.Plain(x)
	p.Objects[0].Attrs[0].Params[1].Name = "turned"
	p.Objects[0].Attrs[0].Params[1].Params[0].Name = "turned"
	if p.Objects[0].Attrs[1].Params[1].Name != "A" || p.Objects[1].Attrs[1].Params[0].Name != "A" || shared[1].Name != "A" {
		t.Error("lists of the answer share memory")
	}
}

// P4.4: the answer grown by appending does not grow into another list.
func TestPlainGrows(t *testing.T) {
	x := fullTree()
	x.Objects = x.Objects[:1]
	p := printer.Plain(x)
	_ = append(p.Objects, api.Object{Kind: "NEW"})
	if full := x.Objects[:3]; full[1].Kind != "TASK" {
		t.Error("what lies behind the tree's list was changed")
	}
}

// P4.5: trees that part in one field are not the same, in whichever it is, but in those of spots.
func TestSameOfEachField(t *testing.T) {
	for _, whole := range []func() api.Tree{carTree, fullTree} {
		count := 0
		x := whole()
		leaves(reflect.ValueOf(&x).Elem(), false, func(reflect.Value, bool) { count++ })
		spots := 0
		for i := range count {
			a, b := whole(), whole()
			n := 0
			leaves(reflect.ValueOf(&b).Elem(), false, func(leaf reflect.Value, inSpot bool) {
				if n == i {
					turn(leaf)
					if got := printer.Same(a, b); got != inSpot || printer.Same(b, a) != inSpot {
						t.Errorf("field %d (%v): Same: %v", i, leaf, got)
					}
					if inSpot {
						spots++
					}
				}
				n++
			})
		}
		if spots < 9 || count-spots < 30 {
			t.Error("only", spots, "fields of spots in", count)
		}
	}
}

// P4.5: trees that part in spots alone are the same, in however many.
func TestSameOfSpots(t *testing.T) {
	x := fullTree()
	leaves(reflect.ValueOf(&x).Elem(), false, func(leaf reflect.Value, inSpot bool) {
		if inSpot {
			turn(leaf)
		}
	})
	for _, y := range []api.Tree{fullTree(), printer.Plain(x), x} {
		if !printer.Same(x, y) || !printer.Same(y, x) {
			t.Error("not the same")
		}
	}
}

// P4.5: lists that are shorter, longer, or in another order.
func TestSameOfLists(t *testing.T) {
	unlike := func(what string, turned func(x *api.Tree)) {
		t.Helper()
		x := fullTree()
		turned(&x)
		if printer.Same(x, fullTree()) || printer.Same(fullTree(), x) {
			t.Error("the same:", what)
		}
	}
	objects := func(x *api.Tree) *[]api.Object { return &x.Objects }
	unlike("without the last object", func(x *api.Tree) { *objects(x) = (*objects(x))[:2] })
	unlike("without objects", func(x *api.Tree) { *objects(x) = nil })
	unlike("objects in another order", func(x *api.Tree) { slices.Reverse(x.Objects) })
	unlike("an object twice", func(x *api.Tree) { x.Objects = append(x.Objects, x.Objects[2]) })
	for what, of := range map[string]func(x *api.Tree) *[]api.Attr{
		"attributes":    func(x *api.Tree) *[]api.Attr { return &x.Objects[1].Attrs },
		"parameters":    func(x *api.Tree) *[]api.Attr { return &x.Objects[1].Attrs[1].Params },
		"theirs":        func(x *api.Tree) *[]api.Attr { return &x.Objects[1].Attrs[1].Params[1].Params },
		"the innermost": func(x *api.Tree) *[]api.Attr { return &x.Objects[1].Attrs[1].Params[1].Params[1].Params[0].Params },
	} {
		unlike(what+": without the last", func(x *api.Tree) { l := of(x); *l = (*l)[:len(*l)-1] })
		unlike(what+": none", func(x *api.Tree) { *of(x) = nil })
		unlike(what+": one twice", func(x *api.Tree) { l := of(x); *l = append(slices.Clip(*l), (*l)[len(*l)-1]) })
		if x := fullTree(); len(*of(&x)) > 1 {
			unlike(what+": in another order", func(x *api.Tree) { slices.Reverse(*of(x)) })
		}
	}
}

// P4.5: nil and empty lists are the same; so is each tree and itself, whether a text has it or not.
func TestSameOfItself(t *testing.T) {
	wrong := holding(nested(api.MaxDepth + 3))
	turnAll(&wrong)
	for _, x := range []api.Tree{{}, carTree(), fullTree(), wrong} {
		if !printer.Same(x, x) || !printer.Same(x, filled(x)) || !printer.Same(filled(x), x) {
			t.Errorf("%+v is not the same as itself", x)
		}
	}
}

// R3: Same changes nothing.
func TestSameChangesNothing(t *testing.T) {
	a, b := fullTree(), fullTree()
	b.Objects[1].Attrs[1].Params[1].Params[1].Params[0].Params[0].Note = "other"
	printer.Same(a, b)
	if !reflect.DeepEqual(a, fullTree()) || b.Objects[1].At != a.Objects[1].At {
		t.Error("a tree was changed")
	}
}

// R1: every call ends at trees as deep as the bound lets them be.
func TestVeryDeepTrees(t *testing.T) {
	x, y := holding(nested(1<<16-8)), holding(nested(1<<16-7))
	refused(t, x, 0, 0, 0, 0, 0, 0)
	if p := printer.Plain(x); !printer.Same(p, x) || printer.Same(p, y) {
		t.Error("Plain or Same of a very deep tree")
	}
}
