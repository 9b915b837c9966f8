package schema_test

import (
	"fmt"
	"reflect"
	"slices"
	"strings"
	"testing"

	"tappet/api"
	"tappet/schema"
	"tappet/token"
)

// chance is a row of numbers that is the same in every run.
type chance uint64

func (c *chance) below(n int) int {
	*c = *c*6364136223846793005 + 1442695040888963407
	return int((uint64(*c) >> 33) % uint64(n))
}

func pick[T any](c *chance, l ...T) T { return l[c.below(len(l))] }

func shuffle[T any](c *chance, l []T) {
	for i := range l {
		j := i + c.below(len(l)-i)
		l[i], l[j] = l[j], l[i]
	}
}

func named(s string) api.Value  { return api.Value{Kind: api.ValueName, Text: s} }
func said(s string) api.Value   { return api.Value{Kind: api.ValueString, Text: s} }
func number(v uint32) api.Value { return api.Value{Kind: api.ValueNumber, Number: v} }

func spot(n int) api.Spot { return api.Spot{Off: n, Line: 2 * n, Col: -n} }

// is is an attribute without braces, with them one with what stands in them.
func is(name string, v api.Value) api.Attr { return api.Attr{Name: name, Value: v} }

func with(name string, v api.Value, l ...api.Attr) api.Attr {
	return api.Attr{Name: name, Value: v, Braced: true, Params: l}
}

func object(kind string, l ...api.Attr) api.Object {
	return api.Object{Kind: kind, Name: "n", Attrs: l}
}

func holding(l ...api.Object) api.Tree { return api.Tree{Version: "2.5", CPU: "c", Objects: l} }

// sown gives each object and each attribute of a tree a spot of its own.
func sown(t api.Tree) api.Tree {
	n := 0
	var sow func(l []api.Attr) []api.Attr
	sow = func(l []api.Attr) []api.Attr {
		l = slices.Clone(l)
		for i := range l {
			n++
			l[i].At = spot(n)
			l[i].Params = sow(l[i].Params)
		}
		return l
	}
	t.Objects = slices.Clone(t.Objects)
	for i := range t.Objects {
		n++
		t.Objects[i].At = spot(n)
		t.Objects[i].Attrs = sow(t.Objects[i].Attrs)
	}
	return t
}

// filled answers entries in new memory, with an empty list where there is none (nil and empty lists are the same), and, if asked for, without their spots.
func filled(l []api.Entry, spotless bool) []api.Entry {
	m := []api.Entry{}
	for _, e := range l {
		e.Params = filled(e.Params, spotless)
		if spotless {
			e.At = api.Spot{}
		}
		m = append(m, e)
	}
	return m
}

func filledSheet(s api.Sheet, spotless bool) api.Sheet {
	items := []api.Item{}
	for _, item := range s.Items {
		item.Entries = filled(item.Entries, spotless)
		if spotless {
			item.At = api.Spot{}
		}
		items = append(items, item)
	}
	s.Items = items
	return s
}

func same(a, b api.Sheet) bool {
	return reflect.DeepEqual(filledSheet(a, false), filledSheet(b, false))
}

// alike tells whether two sheets are the same but for their spots.
func alike(a, b api.Sheet) bool {
	return reflect.DeepEqual(filledSheet(a, true), filledSheet(b, true))
}

// short is what a failing test says of a tree or a sheet, which may be long.
func short(x any) string {
	s := fmt.Sprintf("%+v", x)
	return fmt.Sprintf("%q", s[:min(len(s), 600)])
}

// takes is the sheet of a tree that must have one.
func takes(t *testing.T, x api.Tree) api.Sheet {
	t.Helper()
	s, f := schema.Read(x)
	if f != (api.Fault{}) {
		t.Errorf("Read(%s): %v", short(x), f)
	}
	return s
}

func refuses(t *testing.T, x api.Tree, code api.Errno, at api.Spot, name string) {
	t.Helper()
	s, f := schema.Read(x)
	if f != (api.Fault{Code: code, At: at, Name: name}) || !same(s, api.Sheet{}) {
		t.Errorf("Read(%s): %s %v, not %d at %v, %q", short(x), short(s), f, code, at, name)
	}
}

// writes is the tree of a sheet that must have one.
func writes(t *testing.T, s api.Sheet) api.Tree {
	t.Helper()
	x, e := schema.Write(s)
	if e != api.OK {
		t.Errorf("Write(%s): %d", short(s), e)
	}
	return x
}

func writesNot(t *testing.T, what string, s api.Sheet) {
	t.Helper()
	x, e := schema.Write(s)
	if e != api.ErrArg || x.Version != "" || x.CPU != "" || len(x.Objects) != 0 || x.Noted || x.Note != "" {
		t.Errorf("%s: Write(%s): %s %d", what, short(s), short(x), e)
	}
}

// nameOf2 and stringOf2 tell what layer 2 takes for a name, and what a string of it can say.
func nameOf2(s string) bool {
	_, e := token.Spell(api.Token{Kind: api.TokenName, Text: s})
	return e == api.OK
}

func stringOf2(s string) bool {
	_, e := token.Spell(api.Token{Kind: api.TokenString, Text: s})
	return e == api.OK
}

func badNames() []string {
	return []string{"1a", "", " ", "a b", " a", "a ", "a\n", "a-b", "a.b", "\x00", "a\x80", "ä", `"a"`, ";", "9", "a { }; //", "c/**/", "//", "/*", strings.Repeat("a", api.MaxName+1), strings.Repeat("a", api.MaxOil+1)}
}

func goodNames() []string {
	return []string{"a", "_", "Z9", "TRUE", "AUTO", "CPU", "OIL_VERSION", "TASK", strings.Repeat("z", api.MaxName)}
}

func badStrings() []string {
	return []string{"\n", "\x00", "a\x1f", "\x7fb", "é", "\xff", "\t", strings.Repeat("a", api.MaxString+1), "\u20ac", strings.Repeat("a", api.MaxOil+1)}
}

func goodStrings() []string {
	every := make([]byte, 0, 95)
	for b := byte(32); b <= 126; b++ {
		every = append(every, b)
	}
	return []string{"", " ", "f", string(every), `"`, `\`, `\"`, `\\`, `"; CPU x { };`, strings.Repeat(`"`, api.MaxString), strings.Repeat(`\`, api.MaxString)}
}
