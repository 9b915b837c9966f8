package names_test

import (
	"fmt"
	"reflect"
	"slices"
	"strings"
	"testing"

	"tappet/api"
	"tappet/names"
	"tappet/schema"
	"tappet/token"
	"tappet/tree"
)

// chance is a row of numbers that is the same in every run.
type chance uint64

func (c *chance) below(n int) int {
	*c = *c*6364136223846793005 + 1442695040888963407
	return int((uint64(*c) >> 33) % uint64(n))
}

func pick[T any](c *chance, l ...T) T { return l[c.below(len(l))] }

func shuffle[T any](c *chance, l []T) {
	for i := range l {
		j := i + c.below(len(l)-i)
		l[i], l[j] = l[j], l[i]
	}
}

// inText is the sheet of a text with these objects, and the text.
func inText(t *testing.T, objects string) (api.Sheet, string) {
	t.Helper()
	text := `OIL_VERSION = "2.5"; CPU c { ` + objects + ` };`
	x, f := tree.Parse(text)
	if f != (api.Fault{}) {
		t.Fatalf("Parse(%s): %v", short(text), f)
	}
	s, f := schema.Read(x)
	if f != (api.Fault{}) {
		t.Fatalf("Read(%s): %v", short(text), f)
	}
	return s, text
}

// resolved is the configuration of a text that must have one.
func resolved(t *testing.T, objects string) api.Config {
	t.Helper()
	s, _ := inText(t, objects)
	return resolves(t, s)
}

func resolves(t *testing.T, s api.Sheet) api.Config {
	t.Helper()
	c, f := names.Resolve(s)
	if f != (api.Fault{}) {
		t.Errorf("Resolve(%s): %v", short(s), f)
	}
	return c
}

func refuses(t *testing.T, s api.Sheet, want api.Fault) {
	t.Helper()
	c, f := names.Resolve(s)
	if f != want || !same(c, api.Config{}) {
		t.Errorf("Resolve(%s): %s %v, not %v", short(s), short(c), f, want)
	}
}

// textRefused: Resolve of a text with these objects tells a fault at the place of the mark @, which is taken out of it.
func textRefused(t *testing.T, objects string, code api.Errno, name string) {
	t.Helper()
	at := strings.Index(objects, "@")
	s, text := inText(t, strings.Replace(objects, "@", "", 1))
	if at < 0 {
		refuses(t, s, api.Fault{Code: code, Name: name})
		return
	}
	off := strings.Index(text, "CPU c { ") + len("CPU c { ") + at
	refuses(t, s, api.Fault{Code: code, At: token.At(text, off), Name: name})
}

// writes is the sheet of a configuration that must have one.
func writes(t *testing.T, c api.Config) api.Sheet {
	t.Helper()
	s, e := names.Sheet(c)
	if e != api.OK {
		t.Errorf("Sheet(%s): %d", short(c), e)
	}
	return s
}

func writesNot(t *testing.T, what string, c api.Config) {
	t.Helper()
	s, e := names.Sheet(c)
	if e != api.ErrArg || s.CPU != "" || len(s.Items) != 0 {
		t.Errorf("%s: Sheet(%s): %s %d", what, short(c), short(s), e)
	}
}

// plain is a copy in new memory in which each empty list is nil; nil and empty lists are the same.
func plain[T any](x T) T {
	v := reflect.New(reflect.TypeOf(x)).Elem()
	v.Set(copied(reflect.ValueOf(x)))
	return v.Interface().(T)
}

func copied(v reflect.Value) reflect.Value {
	out := reflect.New(v.Type()).Elem()
	switch v.Kind() {
	case reflect.Slice:
		for i := range v.Len() {
			out = reflect.Append(out, copied(v.Index(i)))
		}
	case reflect.Struct:
		for i := range v.NumField() {
			out.Field(i).Set(copied(v.Field(i)))
		}
	default:
		out.Set(v)
	}
	return out
}

func same[T any](a, b T) bool { return reflect.DeepEqual(plain(a), plain(b)) }

// spotless is a sheet without its spots.
func spotless(s api.Sheet) api.Sheet {
	return spotted(s, func() api.Spot { return api.Spot{} })
}

// sown is a sheet in which each item and each entry has a spot of its own.
func sown(s api.Sheet) api.Sheet {
	n := 0
	return spotted(s, func() api.Spot {
		n++
		return api.Spot{Off: n, Line: 2 * n, Col: -n}
	})
}

func spotted(s api.Sheet, at func() api.Spot) api.Sheet {
	s = plain(s)
	var set func(l []api.Entry)
	set = func(l []api.Entry) {
		for i := range l {
			l[i].At = at()
			set(l[i].Params)
		}
	}
	for i := range s.Items {
		s.Items[i].At = at()
		set(s.Items[i].Entries)
	}
	return s
}

// rooms are the stretches of memory in which lists lie, with all the room that they have.
func rooms(v reflect.Value) [][2]uintptr {
	var l [][2]uintptr
	switch v.Kind() {
	case reflect.Slice:
		if v.Cap() > 0 {
			size := v.Type().Elem().Size() * uintptr(v.Cap())
			l = append(l, [2]uintptr{v.Pointer(), v.Pointer() + size})
		}
		for i := range v.Len() {
			l = append(l, rooms(v.Index(i))...)
		}
	case reflect.Struct:
		for i := range v.NumField() {
			l = append(l, rooms(v.Field(i))...)
		}
	}
	return l
}

// apart: no two lists of all these values share memory.
func apart(t *testing.T, all ...any) {
	t.Helper()
	var l [][2]uintptr
	for _, x := range all {
		l = append(l, rooms(reflect.ValueOf(x))...)
	}
	slices.SortFunc(l, func(a, b [2]uintptr) int { return int(a[0]) - int(b[0]) })
	for i := 1; i < len(l); i++ {
		if l[i][0] < l[i-1][1] {
			t.Error("lists share memory")
			return
		}
	}
}

// short is what a failing test says of something that may be long.
func short(x any) string {
	s := fmt.Sprintf("%+v", x)
	return fmt.Sprintf("%q", s[:min(len(s), 700)])
}

// nameOf2 and stringOf2 tell what layer 2 takes for a name, and what a string of it can say.
func nameOf2(s string) bool {
	_, e := token.Spell(api.Token{Kind: api.TokenName, Text: s})
	return e == api.OK
}

func stringOf2(s string) bool {
	_, e := token.Spell(api.Token{Kind: api.TokenString, Text: s})
	return e == api.OK
}

func badNames() []string {
	return []string{"", "1a", " ", "a b", " a", "a ", "a\n", "a-b", "\x00", "a\x80", "ä", `"a"`, ";", "9", "a { }; //", "c/**/", strings.Repeat("a", api.MaxName+1)}
}

func goodNames() []string {
	return []string{"a", "_", "Z9", "TRUE", "AUTO", "OS", "TASK", strings.Repeat("z", api.MaxName)}
}

func badStrings() []string {
	return []string{"\n", "\x00", "a\x1f", "\x7fb", "é", "\xff", strings.Repeat("a", api.MaxString+1)}
}

func goodStrings() []string {
	return []string{"", " ", "f", `"`, `\`, `a"; };`, "1 2", strings.Repeat(`"`, api.MaxString)}
}
