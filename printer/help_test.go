package printer_test

import (
	"reflect"
	"slices"
	"strconv"
	"strings"
	"testing"

	"tappet/api"
	"tappet/printer"
	"tappet/tree"
)

// chance is a row of numbers that is the same in every run.
type chance uint64

func (c *chance) below(n int) int {
	*c = *c*6364136223846793005 + 1442695040888963407
	return int((uint64(*c) >> 33) % uint64(n))
}

func pick[T any](c *chance, l ...T) T { return l[c.below(len(l))] }

func named(s string) api.Value  { return api.Value{Kind: api.ValueName, Text: s} }
func said(s string) api.Value   { return api.Value{Kind: api.ValueString, Text: s} }
func number(v uint32) api.Value { return api.Value{Kind: api.ValueNumber, Number: v} }
func hexed(v uint32) api.Value  { return api.Value{Kind: api.ValueNumber, Number: v, Hex: true} }

const example = `OIL_VERSION = "2.5";
CPU car {
  OS std {
    STATUS = EXTENDED;
  };
  TASK T1 {
    PRIORITY = 2 : "high";
    AUTOSTART = TRUE {
      APPMODE = normal;
    };
  };
  EVENT E1 { };
} : "a car";
`

// carTree is the tree of the example, with spots that no text gives.
func carTree() api.Tree {
	return api.Tree{Version: "2.5", CPU: "car", Noted: true, Note: "a car", Objects: []api.Object{
		{Kind: "OS", Name: "std", At: api.Spot{Off: -1, Line: 7, Col: 3}, Attrs: []api.Attr{
			{Name: "STATUS", At: api.Spot{Off: 9, Line: -2, Col: 8}, Value: named("EXTENDED")},
		}},
		{Kind: "TASK", Name: "T1", Attrs: []api.Attr{
			{Name: "PRIORITY", At: api.Spot{Line: 1}, Value: number(2), Noted: true, Note: "high"},
			{Name: "AUTOSTART", Value: named("TRUE"), Braced: true, Params: []api.Attr{
				{Name: "APPMODE", At: api.Spot{Col: 1}, Value: named("normal")},
			}},
		}},
		{Kind: "EVENT", Name: "E1", At: api.Spot{Off: 1}},
	}}
}

// fullTree is one in which something stands at each place: descriptions, values of all kinds, empty braces, braces within braces.
func fullTree() api.Tree {
	at := api.Spot{Off: 5, Line: 2, Col: 3}
	return api.Tree{Version: "2.5", CPU: "c", Noted: true, Note: "n", Objects: []api.Object{
		{Kind: "OS", Name: "o", At: at, Noted: true, Note: "n"},
		{Kind: "TASK", Name: "t", At: at, Noted: true, Note: "n", Attrs: []api.Attr{
			{Name: "A", At: at, Value: number(7), Noted: true, Note: "n"},
			{Name: "B", At: at, Value: said("s"), Braced: true, Noted: true, Note: "n", Params: []api.Attr{
				{Name: "C", At: at, Value: hexed(31), Braced: true, Noted: true, Note: "n"},
				{Name: "D", At: at, Value: named("d"), Braced: true, Noted: true, Note: "n", Params: []api.Attr{
					{Name: "E", At: at, Value: number(0), Noted: true, Note: "n"},
					{Name: "F", At: at, Value: named("f"), Braced: true, Noted: true, Note: "n", Params: []api.Attr{
						{Name: "G", At: at, Value: said(""), Braced: true, Noted: true, Note: "n", Params: []api.Attr{
							{Name: "H", At: at, Value: hexed(0), Noted: true, Note: "n"},
						}},
					}},
				}},
				{Name: "I", At: at, Value: named("i"), Noted: true, Note: "n"},
			}},
			{Name: "J", At: at, Value: named("j"), Noted: true, Note: "n"},
		}},
		{Kind: "TASK", Name: "u", At: at, Noted: true, Note: "n", Attrs: []api.Attr{
			{Name: "K", At: at, Value: named("k"), Noted: true, Note: "n"},
		}},
	}}
}

// holding is a tree of one object with these attributes.
func holding(l ...api.Attr) api.Tree {
	return api.Tree{Version: "2.5", CPU: "c", Objects: []api.Object{{Kind: "TASK", Name: "T", Attrs: l}}}
}

// nested is an attribute in which so many braces stand one in the other.
func nested(braces int) api.Attr {
	a := api.Attr{Name: "A", Value: number(1)}
	for i := range braces {
		b := api.Attr{Name: "A", Value: number(1), Braced: true}
		if i > 0 {
			b.Params = []api.Attr{a}
		}
		a = b
	}
	return a
}

func attrAt(t *api.Tree, steps []int) *api.Attr {
	a := &t.Objects[steps[0]].Attrs[steps[1]]
	for _, i := range steps[2:] {
		a = &a.Params[i]
	}
	return a
}

// leaves visits each field of a tree that is no list and no struct, however deep; inSpot: it is part of a spot.
func leaves(v reflect.Value, inSpot bool, visit func(leaf reflect.Value, inSpot bool)) {
	switch v.Kind() {
	case reflect.Struct:
		for i := range v.NumField() {
			leaves(v.Field(i), inSpot || v.Type() == reflect.TypeFor[api.Spot](), visit)
		}
	case reflect.Slice:
		for i := range v.Len() {
			leaves(v.Index(i), inSpot, visit)
		}
	default:
		visit(v, inSpot)
	}
}

// turn makes another value of a leaf.
func turn(leaf reflect.Value) {
	switch leaf.Kind() {
	case reflect.String:
		leaf.SetString(leaf.String() + "x")
	case reflect.Bool:
		leaf.SetBool(!leaf.Bool())
	case reflect.Uint32:
		leaf.SetUint(leaf.Uint() + 1)
	default:
		leaf.SetInt(leaf.Int() + 1)
	}
}

func turnAll(t *api.Tree) {
	leaves(reflect.ValueOf(t).Elem(), false, func(leaf reflect.Value, _ bool) { turn(leaf) })
}

// sound fails unless a flaw is the zero one.
func sound(t *testing.T, f api.Flaw) {
	t.Helper()
	if f.Code != api.OK || len(f.Steps) != 0 {
		t.Errorf("a flaw: %v", f)
	}
}

// refused fails unless Fits and Print both tell ErrTree at these steps, and Print no text.
func refused(t *testing.T, x api.Tree, steps ...int) {
	t.Helper()
	if f := printer.Fits(x); f.Code != api.ErrTree || !slices.Equal(f.Steps, steps) {
		t.Errorf("Fits: %v, not %d at %v", f, api.ErrTree, steps)
	}
	if s, f := printer.Print(x); s != "" || f.Code != api.ErrTree || !slices.Equal(f.Steps, steps) {
		t.Errorf("Print: %q, %v, not %d at %v", s, f, api.ErrTree, steps)
	}
}

// printed is the text of a tree that must have one.
func printed(t *testing.T, x api.Tree) string {
	t.Helper()
	sound(t, printer.Fits(x))
	s, f := printer.Print(x)
	sound(t, f)
	return s
}

func parsed(t *testing.T, text string) api.Tree {
	t.Helper()
	x, f := tree.Parse(text)
	if f != (api.Fault{}) {
		t.Fatalf("Parse(%.200q): %v", text, f)
	}
	return x
}

// maker makes trees by chance.
type maker struct{ chance }

func (m *maker) name() string {
	return pick(&m.chance, "a", "_", "T1", "CPU", "OIL_VERSION", "TRUE", strings.Repeat("x", api.MaxName))
}

func (m *maker) text() string {
	return pick(&m.chance, "", ";", `"`, `\`, `a"b\`, " : ", "// no comment", strings.Repeat("y", api.MaxString))
}

func (m *maker) value() api.Value {
	n := uint32(pick(&m.chance, 0, 1, 255, api.MaxNumber))
	return pick(&m.chance, named(m.name()), number(n), hexed(n), said(m.text()))
}

func (m *maker) note() (bool, string) {
	if m.below(2) == 0 {
		return false, ""
	}
	return true, m.text()
}

func (m *maker) spot() api.Spot {
	return api.Spot{Off: m.below(9), Line: m.below(9), Col: m.below(9)}
}

func (m *maker) attrs(depth int) []api.Attr {
	var l []api.Attr
	for range m.below(4) {
		a := api.Attr{Name: m.name(), At: m.spot(), Value: m.value()}
		if depth < api.MaxDepth && m.below(2) == 0 {
			a.Braced, a.Params = true, m.attrs(depth+1)
		}
		a.Noted, a.Note = m.note()
		l = append(l, a)
	}
	return l
}

func (m *maker) tree() api.Tree {
	t := api.Tree{Version: m.text(), CPU: m.name()}
	for range m.below(5) {
		o := api.Object{Kind: m.name(), Name: m.name(), At: m.spot(), Attrs: m.attrs(0)}
		o.Noted, o.Note = m.note()
		t.Objects = append(t.Objects, o)
	}
	t.Noted, t.Note = m.note()
	return t
}

// plainly writes a tree in the words of the chapter, whether or not it fits; gap stands for a blank and for the byte 10 with the blanks behind it.
func plainly(t api.Tree, gap func(depth int) string) string {
	quoted := func(s string) string {
		return `"` + strings.NewReplacer(`"`, `\"`, `\`, `\\`).Replace(s) + `"`
	}
	note := func(noted bool, s string) string {
		if !noted {
			return ";"
		}
		return gap(-1) + ":" + gap(-1) + quoted(s) + ";"
	}
	value := func(v api.Value) string {
		switch {
		case v.Kind == api.ValueName:
			return v.Text
		case v.Kind == api.ValueString:
			return quoted(v.Text)
		case v.Hex:
			return "0x" + strings.ToUpper(strconv.FormatUint(uint64(v.Number), 16))
		}
		return strconv.Itoa(int(v.Number))
	}
	var b strings.Builder
	put := func(l ...string) {
		for _, s := range l {
			b.WriteString(s)
		}
	}
	var braces func(depth int, l []api.Attr)
	braces = func(depth int, l []api.Attr) {
		put(gap(-1), "{")
		for _, a := range l {
			put(gap(depth+1), a.Name, gap(-1), "=", gap(-1), value(a.Value))
			if a.Braced {
				braces(depth+1, a.Params)
			}
			put(note(a.Noted, a.Note))
		}
		if len(l) == 0 {
			depth = -1
		}
		put(gap(depth), "}")
	}
	put("OIL_VERSION", gap(-1), "=", gap(-1), quoted(t.Version), ";", gap(0), "CPU", gap(-1), t.CPU, gap(-1), "{")
	for _, o := range t.Objects {
		put(gap(1), o.Kind, gap(-1), o.Name)
		braces(1, o.Attrs)
		put(note(o.Noted, o.Note))
	}
	put(gap(0), "}", note(t.Noted, t.Note), "\n")
	return b.String()
}

// layout is the gap of the texts that Print writes.
func layout(depth int) string {
	if depth < 0 {
		return " "
	}
	return "\n" + strings.Repeat("  ", depth)
}
