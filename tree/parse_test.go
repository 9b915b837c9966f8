package tree_test

import (
	"reflect"
	"strconv"
	"strings"
	"testing"

	"tappet/api"
	"tappet/token"
	"tappet/tree"
)

const (
	head = `OIL_VERSION = "2.5"; CPU c { `
	tail = ` };`
)

// chance is a row of numbers that is the same in every run.
type chance uint64

func (c *chance) below(n int) int {
	*c = *c*6364136223846793005 + 1442695040888963407
	return int((uint64(*c) >> 33) % uint64(n))
}

func pick[T any](c *chance, l ...T) T { return l[c.below(len(l))] }

func named(s string) api.Value   { return api.Value{Kind: api.ValueName, Text: s} }
func said(s string) api.Value    { return api.Value{Kind: api.ValueString, Text: s} }
func number(v uint32) api.Value  { return api.Value{Kind: api.ValueNumber, Number: v} }
func hexed(v uint32) api.Value   { return api.Value{Kind: api.ValueNumber, Number: v, Hex: true} }
func first(off int) api.Spot     { return api.Spot{Off: off, Line: 1, Col: off + 1} }
func inTask(attrs string) string { return head + "TASK T { " + attrs + " };" + tail }

// filled answers attributes with an empty list where there is none: nil and empty lists are the same.
func filled(l []api.Attr) []api.Attr {
	m := []api.Attr{}
	for _, a := range l {
		a.Params = filled(a.Params)
		m = append(m, a)
	}
	return m
}

func alike(a, b []api.Attr) bool { return reflect.DeepEqual(filled(a), filled(b)) }

func alikeTrees(a, b api.Tree) bool {
	if len(a.Objects) != len(b.Objects) {
		return false
	}
	for i, o := range a.Objects {
		p := b.Objects[i]
		if !alike(o.Attrs, p.Attrs) {
			return false
		}
		o.Attrs, p.Attrs = nil, nil
		if !reflect.DeepEqual(o, p) {
			return false
		}
	}
	a.Objects, b.Objects = nil, nil
	return reflect.DeepEqual(a, b)
}

// takes is the tree of a text that must have one.
func takes(t *testing.T, text string) api.Tree {
	t.Helper()
	x, f := tree.Parse(text)
	if f != (api.Fault{}) {
		t.Fatalf("Parse(%.200q): %v", text, f)
	}
	return x
}

func refuses(t *testing.T, text string, code api.Errno, at api.Spot) {
	t.Helper()
	x, f := tree.Parse(text)
	if f != (api.Fault{Code: code, At: at}) || !alikeTrees(x, api.Tree{}) {
		t.Errorf("Parse(%.200q): %v %v, not %d at %v", text, x, f, code, at)
	}
}

// P3.1: the chapter's examples (those of Find, Paths and Attr stand with them).
func TestParseOfTheExamples(t *testing.T) {
	if x := takes(t, `OIL_VERSION = "2.5"; CPU c { };`); !alikeTrees(x, api.Tree{Version: "2.5", CPU: "c"}) {
		t.Error("the first example:", x)
	}
	want := api.Tree{Version: "2.5", CPU: "c", Objects: []api.Object{{Kind: "TASK", Name: "T", At: first(29), Attrs: []api.Attr{{Name: "PRIORITY", At: first(38), Value: number(1)}}}}}
	if x := takes(t, `OIL_VERSION = "2.5"; CPU c { TASK T { PRIORITY = 1; }; };`); !alikeTrees(x, want) {
		t.Error("the second example:", x)
	}
	refuses(t, `OIL_VERSION = "2.5"; CPU c { TASK T { PRIORITY 1; }; };`, api.ErrExpect, first(47))
	refuses(t, "", api.ErrExpect, first(0))
	takes(t, inTask("A = B { C = D { E = F { G = H { I = 1; }; }; }; };"))
	deep := inTask("A = B { C = D { E = F { G = H { I = 1 { }; }; }; }; };")
	refuses(t, deep, api.ErrDeep, first(strings.Index(deep, "1 {")+2))
	refuses(t, "CPU c { };", api.ErrExpect, first(0))
}

// P3.1: everything that a tree can hold, and where it stands.
func TestParseHoldsEverything(t *testing.T) {
	x := takes(t, `/* a head */ OIL_VERSION="2\"5";CPU car{
OS std { STATUS = EXTENDED; } : "the os";
  TASK CPU {
	OIL_VERSION = 0x1F : "";
	A = "B" { C = TRUE {}; D = 4294967295 : "d"; } : "a";
	A = 0; };
EVENT E {};
}:"all\\"; // an end`)
	want := api.Tree{Version: `2"5`, CPU: "car", Noted: true, Note: `all\`, Objects: []api.Object{
		{Kind: "OS", Name: "std", At: api.Spot{Off: 41, Line: 2, Col: 1}, Noted: true, Note: "the os", Attrs: []api.Attr{
			{Name: "STATUS", At: api.Spot{Off: 50, Line: 2, Col: 10}, Value: named("EXTENDED")},
		}},
		{Kind: "TASK", Name: "CPU", At: api.Spot{Off: 85, Line: 3, Col: 3}, Attrs: []api.Attr{
			{Name: "OIL_VERSION", At: api.Spot{Off: 97, Line: 4, Col: 2}, Value: hexed(31), Noted: true},
			{Name: "A", At: api.Spot{Off: 123, Line: 5, Col: 2}, Value: said("B"), Braced: true, Noted: true, Note: "a", Params: []api.Attr{
				{Name: "C", At: api.Spot{Off: 133, Line: 5, Col: 12}, Value: named("TRUE"), Braced: true},
				{Name: "D", At: api.Spot{Off: 146, Line: 5, Col: 25}, Value: number(4294967295), Noted: true, Note: "d"},
			}},
			{Name: "A", At: api.Spot{Off: 178, Line: 6, Col: 2}, Value: number(0)},
		}},
		{Kind: "EVENT", Name: "E", At: api.Spot{Off: 188, Line: 7, Col: 1}},
	}}
	if !alikeTrees(x, want) {
		t.Errorf("the tree is %+v, not %+v", x, want)
	}
}

// P3.1: a fault of token.Scan is told as it is, and ahead of each of the grammar.
func TestParseTellsFaultsOfScan(t *testing.T) {
	long := strings.Repeat("a", api.MaxName+1)
	deep := inTask(nested(api.MaxDepth + 1))
	for _, x := range []struct {
		text string
		code api.Errno
		at   api.Spot
	}{
		{inTask("A = @;"), api.ErrByte, first(42)},
		{inTask("A = 007;"), api.ErrNumber, first(42)},
		{inTask("A = \"\n\";"), api.ErrString, first(43)},
		{inTask("\nA = \"\\a\";"), api.ErrString, api.Spot{Off: 44, Line: 2, Col: 6}},
		{inTask("A = B : \"" + strings.Repeat("b", api.MaxString+1) + "\";"), api.ErrLong, first(46)},
		{inTask(long + " = 1;"), api.ErrLong, first(38)},
		{inTask("A = 1; /* B = 2;"), api.ErrComment, first(45)},
		{inTask("A = 1;") + strings.Repeat(" ", api.MaxOil), api.ErrLong, first(0)},
		{"} } } 007", api.ErrNumber, first(6)},
		{deep + "\n@", api.ErrByte, api.Spot{Off: len(deep) + 1, Line: 2, Col: 1}},
		{"\"", api.ErrString, first(0)},
	} {
		if _, f := token.Scan(x.text); f != (api.Fault{Code: x.code, At: x.at}) {
			t.Fatalf("Scan(%.80q): %v", x.text, f)
		}
		refuses(t, x.text, x.code, x.at)
	}
	whole := inTask("A = 1;")
	takes(t, whole+strings.Repeat(" ", api.MaxOil-len(whole)))
}

// P3.1: no name is taken for another one, nor a string or a number for a name.
func TestParseOfTheWordsOfTheHead(t *testing.T) {
	for _, w := range []string{"oil_version", "OIL_VERSION_", "OIL_VERSIO", "CPU", `"OIL_VERSION"`, "0"} {
		refuses(t, " "+w+` = "2.5"; CPU c { };`, api.ErrExpect, first(1))
	}
	for _, w := range []string{"cpu", "CPU_", "CP", "OIL_VERSION", `"CPU"`, "0"} {
		refuses(t, `OIL_VERSION = "2.5"; `+w+` c { };`, api.ErrExpect, first(21))
	}
	if x := takes(t, `OIL_VERSION = ""; CPU CPU { CPU OIL_VERSION { }; };`); x.Version != "" || x.CPU != "CPU" || len(x.Objects) != 1 || x.Objects[0].Kind != "CPU" || x.Objects[0].Name != "OIL_VERSION" {
		t.Error(x)
	}
}

// nested is attributes one within the other, in so many braces.
func nested(braces int) string {
	return strings.Repeat("A = 1 { ", braces) + strings.Repeat("}; ", braces)
}

// P3.1: how deep braces may be, whatever stands in them, in the first object and in a later one.
func TestParseOfDepth(t *testing.T) {
	for _, ahead := range []string{"", "A = 1; ", "A = 1 { B = 2 { }; }; ", nested(api.MaxDepth)} {
		for _, object := range []string{"T T { ", "T T { A = 1 { }; }; U U { "} {
			for n := range api.MaxDepth + 1 {
				takes(t, head+object+ahead+nested(n)+"};"+tail)
			}
			for n := api.MaxDepth + 1; n < api.MaxDepth+5; n++ {
				brace := len(head+object+ahead) + len("A = 1 { ")*api.MaxDepth + len("A = 1 ")
				refuses(t, head+object+ahead+nested(n)+"};"+tail, api.ErrDeep, first(brace))
			}
		}
	}
	// Where a brace may not stand, its depth does not matter.
	bad := inTask("A = 1 { A = 1 { A = 1 { A = 1 { A = { }; }; }; }; };")
	refuses(t, bad, api.ErrExpect, first(strings.Index(bad, "= {")+2))
	bad = inTask(`A = 1 { A = 1 { A = 1 { A = 1 { A = 1 : "" { }; }; }; }; };`)
	refuses(t, bad, api.ErrExpect, first(strings.Index(bad, `"" {`)+3))
	bad = inTask("A = 1 { } { };")
	refuses(t, bad, api.ErrExpect, first(strings.Index(bad, "} {")+2))
}

// P3.1, P3.4: a text that has every part of the grammar, with each of its tokens turned to each other one, left out, doubled, and the text cut behind each of them.
func TestParseOfEachPlace(t *testing.T) {
	r := newReading()
	whole := "V=s;Cn{nn{n=n{n=d{};n=s{n=n;}:s;};n=d:s;n=n;}:s;nn{};nn{n=s{};};}:s;$"
	if at, _ := r.fault(whole); at != -1 {
		t.Fatal("the whole text is at fault at", at)
	}
	for i := range whole {
		follows(t, r, whole[:i])
		follows(t, r, whole[:i]+whole[i+1:])
		for _, x := range "VCnds{}=;:" {
			follows(t, r, whole[:i]+string(x)+whole[i+1:])
			follows(t, r, whole[:i]+string(x)+whole[i:])
		}
	}
}

// follows holds Parse of a row of tokens against the second reading of the grammar.
func follows(t *testing.T, r *reading, letters string) {
	t.Helper()
	text, offs := spelt(letters)
	i, code := r.fault(letters)
	want := api.Fault{}
	if i >= 0 {
		want = api.Fault{Code: code, At: token.At(text, offs[i])}
	}
	if x, f := tree.Parse(text); f != want || want.Code != api.OK && !alikeTrees(x, api.Tree{}) {
		t.Errorf("Parse of %s (%q): %v, not %v", letters, text, f, want)
	}
}

// P3.1, P3.4: all rows of tokens that go on behind a beginning by so many that may stand there, each with every token that may or may not stand behind it.
func TestParseOfAllShortRows(t *testing.T) {
	r := newReading()
	var grow func(letters string, more int) int
	grow = func(letters string, more int) int {
		n := 0
		for _, x := range "VCnds{}=;:$" {
			next := letters + string(x)
			follows(t, r, next)
			n++
			if more > 1 && x != '$' && r.begins(next) {
				n += grow(next, more-1)
			}
		}
		return n
	}
	n := 0
	for _, begin := range []string{"", "V=s;", "V=s;Cn{", "V=s;Cn{nn{", "V=s;Cn{nn{n=n", "V=s;Cn{nn{n=d{n=n{n=s{n=d", "V=s;Cn{nn{n=d{n=n{n=s{n=d{n=n", "V=s;Cn{nn{n=d{n=n{n=s{n=d{n=n;}", "V=s;Cn{nn{};nn{}:s", "V=s;Cn{}:s;"} {
		n += grow(begin, 7)
	}
	if n < 10000 {
		t.Error("only", n, "rows")
	}
}

// maker makes a tree by chance, and a text of it at once, so that it knows the spots.
type maker struct {
	c    *chance
	text strings.Builder
	gaps []string
}

func (m *maker) gap() { m.text.WriteString(pick(m.c, m.gaps...)) }

// put writes a token, and answers where it stands.
func (m *maker) put(s string) api.Spot {
	m.gap()
	at := token.At(m.text.String(), m.text.Len())
	m.text.WriteString(s)
	return at
}

func (m *maker) name() string {
	return pick(m.c, "a", "_", "TASK", "CPU", "OIL_VERSION", "TRUE", strings.Repeat("x", api.MaxName))
}

func (m *maker) value() (api.Value, string) {
	n := uint32(pick(m.c, 0, 1, 255, api.MaxNumber))
	switch m.c.below(4) {
	case 0:
		s := m.name()
		return named(s), s
	case 1:
		return number(n), strconv.Itoa(int(n))
	case 2:
		return hexed(n), "0x" + strconv.FormatUint(uint64(n), 16)
	}
	s := pick(m.c, "", " a", "TRUE", "// no comment", strings.Repeat("y", api.MaxString))
	return said(s), `"` + s + `"`
}

func (m *maker) note() (bool, string) {
	if m.c.below(2) == 0 {
		return false, ""
	}
	s := pick(m.c, "", "a note", "1;")
	m.put(":")
	m.put(`"` + s + `"`)
	return true, s
}

func (m *maker) attrs(depth int) []api.Attr {
	var l []api.Attr
	for range m.c.below(4) {
		var a api.Attr
		a.Name = m.name()
		a.At = m.put(a.Name)
		m.put("=")
		v, s := m.value()
		a.Value = v
		m.put(s)
		if depth < api.MaxDepth && m.c.below(2) == 0 {
			m.put("{")
			a.Braced, a.Params = true, m.attrs(depth+1)
			m.put("}")
		}
		a.Noted, a.Note = m.note()
		m.put(";")
		l = append(l, a)
	}
	return l
}

func (m *maker) tree() api.Tree {
	t := api.Tree{Version: pick(m.c, "2.5", "", "OIL"), CPU: m.name()}
	for _, s := range []string{"OIL_VERSION", "=", `"` + t.Version + `"`, ";", "CPU", t.CPU, "{"} {
		m.put(s)
	}
	for range m.c.below(4) {
		o := api.Object{Kind: m.name(), Name: m.name()}
		o.At = m.put(o.Kind)
		m.put(o.Name)
		m.put("{")
		o.Attrs = m.attrs(0)
		m.put("}")
		o.Noted, o.Note = m.note()
		m.put(";")
		t.Objects = append(t.Objects, o)
	}
	m.put("}")
	t.Noted, t.Note = m.note()
	m.put(";")
	m.gap()
	return t
}

// spotless answers attributes with all spots zero.
func spotless(l []api.Attr) []api.Attr {
	m := []api.Attr{}
	for _, a := range l {
		a.At, a.Params = api.Spot{}, spotless(a.Params)
		m = append(m, a)
	}
	return m
}

func spotlessTree(t api.Tree) api.Tree {
	var l []api.Object
	for _, o := range t.Objects {
		o.At, o.Attrs = api.Spot{}, spotless(o.Attrs)
		l = append(l, o)
	}
	t.Objects = l
	return t
}

// P3.1, P3.4: trees made by chance are those of their texts; what stands between the tokens changes nothing but spots.
func TestParseOfTreesByChance(t *testing.T) {
	blanks := [][]string{{" "}, {"\n"}, {"\t \r\n"}, {"/**/"}, {"// ; }\n"}, {" ", "\n\n", "/* \"\n } */", "//\n", "//*/\n\t"}}
	for seed := range 60 {
		var plain api.Tree
		for i, gaps := range blanks {
			c := chance(seed)
			m := maker{c: &c, gaps: make([]string, 12)}
			for j := range m.gaps {
				m.gaps[j] = gaps[j%len(gaps)]
			}
			want := m.tree()
			got := takes(t, m.text.String())
			if !alikeTrees(got, want) {
				t.Fatalf("Parse(%q): %+v, not %+v", m.text.String(), got, want)
			}
			if i == 0 {
				plain = spotlessTree(got)
			} else if !alikeTrees(spotlessTree(got), plain) {
				t.Errorf("the tree of %q hangs on its blanks", m.text.String())
			}
		}
	}
}

// P3.4: nothing at all need stand between tokens that do not run into each other.
func TestParseWithoutBlanks(t *testing.T) {
	x := takes(t, `OIL_VERSION="2.5";CPU c{TASK T{A=1:"n";B="s"{C=D;};};};`)
	y := takes(t, ` OIL_VERSION = "2.5" ; CPU c { TASK T { A = 1 : "n" ; B = "s" { C = D ; } ; } ; } ; `)
	if !alikeTrees(spotlessTree(x), spotlessTree(y)) {
		t.Error(x, y)
	}
}

// R3: two answers share nothing.
func TestParseAnswersNewMemory(t *testing.T) {
	s := inTask("A = B { C = D; }; E = F;")
	x, y := takes(t, s), takes(t, s)
	x.Objects[0].Attrs[0].Params[0].Name = "turned"
	x.Objects[0].Attrs[1].Name = "turned"
	x.Objects[0].Name = "turned"
	if !alikeTrees(y, takes(t, s)) {
		t.Error("turned with another answer:", y)
	}
	o := takes(t, head+"A A { A = 1; }; B B { B = 2 { C = 3; }; D = 4; };"+tail).Objects
	_ = append(o[0].Attrs, api.Attr{Name: "turned"})
	_ = append(o[1].Attrs[0].Params, api.Attr{Name: "turned"})
	if o[1].Attrs[0].Name != "B" || o[1].Attrs[1].Name != "D" {
		t.Error("two lists of one answer share memory:", o)
	}
}

// R1: the greatest texts end in good time.
func TestParseOfGreatTexts(t *testing.T) {
	n := (api.MaxOil - len(inTask(""))) / len("A=1;")
	if x := takes(t, inTask(strings.Repeat("A=1;", n))); len(x.Objects[0].Attrs) != n {
		t.Error("attributes:", len(x.Objects[0].Attrs))
	}
	n = (api.MaxOil - len(head+tail)) / len("A B{};")
	if x := takes(t, head+strings.Repeat("A B{};", n)+tail); len(x.Objects) != n {
		t.Error("objects:", len(x.Objects))
	}
	refuses(t, strings.Repeat("{", api.MaxOil), api.ErrExpect, first(0))
	refuses(t, inTask(strings.Repeat("A=B{", api.MaxOil/8)), api.ErrDeep, first(38+4*api.MaxDepth+3))
}
