package printer_test

import (
	"reflect"
	"slices"
	"strings"
	"testing"

	"tappet/api"
	"tappet/printer"
	"tappet/tree"
)

// P4.2: the chapter's example, from its text and from its tree.
func TestPrintOfTheExample(t *testing.T) {
	if s := printed(t, carTree()); s != example {
		t.Error(s)
	}
	if s := printed(t, parsed(t, example)); s != example {
		t.Error(s)
	}
}

// P4.2: each form of a line.
func TestPrintOfEachForm(t *testing.T) {
	noted := holding()
	noted.Objects[0].Noted, noted.Objects[0].Note = true, "o"
	escaped := api.Tree{Version: `2"5\`, CPU: "c", Noted: true, Note: `;`}
	for _, x := range []struct {
		tree api.Tree
		body string
	}{
		{api.Tree{Version: "2.5", CPU: "c"}, ""},
		{holding(), "  TASK T { };\n"},
		{noted, "  TASK T { } : \"o\";\n"},
		{holding(api.Attr{Name: "A", Value: named("b")}), "  TASK T {\n    A = b;\n  };\n"},
		{holding(api.Attr{Name: "A", Value: number(10)}), "  TASK T {\n    A = 10;\n  };\n"},
		{holding(api.Attr{Name: "A", Value: hexed(10)}), "  TASK T {\n    A = 0xA;\n  };\n"},
		{holding(api.Attr{Name: "A", Value: said(`b"\`)}), "  TASK T {\n    A = \"b\\\"\\\\\";\n  };\n"},
		{holding(api.Attr{Name: "A", Value: said(";")}), "  TASK T {\n    A = \";\";\n  };\n"},
		{holding(api.Attr{Name: "A", Value: named("b"), Noted: true}), "  TASK T {\n    A = b : \"\";\n  };\n"},
		{holding(api.Attr{Name: "A", Value: named("b"), Braced: true}), "  TASK T {\n    A = b { };\n  };\n"},
		{holding(api.Attr{Name: "A", Value: named("b"), Braced: true, Noted: true, Note: "n"}), "  TASK T {\n    A = b { } : \"n\";\n  };\n"},
		{holding(api.Attr{Name: "A", Value: named("b"), Braced: true, Noted: true, Note: "n", Params: []api.Attr{{Name: "C", Value: number(1)}}}), "  TASK T {\n    A = b {\n      C = 1;\n    } : \"n\";\n  };\n"},
	} {
		want := "OIL_VERSION = \"2.5\";\nCPU c {\n" + x.body + "};\n"
		if s := printed(t, x.tree); s != want {
			t.Errorf("%q, not %q", s, want)
		}
	}
	if s := printed(t, escaped); s != "OIL_VERSION = \"2\\\"5\\\\\";\nCPU c {\n} : \";\";\n" {
		t.Errorf("%q", s)
	}
}

// P4.2: everything at once, with descriptions at each place, down to the deepest braces.
func TestPrintOfEverything(t *testing.T) {
	want := `OIL_VERSION = "2.5";
CPU c {
  OS o { } : "n";
  TASK t {
    A = 7 : "n";
    B = "s" {
      C = 0x1F { } : "n";
      D = d {
        E = 0 : "n";
        F = f {
          G = "" {
            H = 0x0 : "n";
          } : "n";
        } : "n";
      } : "n";
      I = i : "n";
    } : "n";
    J = j : "n";
  } : "n";
  TASK u {
    K = k : "n";
  } : "n";
} : "n";
`
	if s := printed(t, fullTree()); s != want {
		t.Error(s)
	}
}

// P4.2: nil and empty lists are the same.
func TestPrintOfEmptyLists(t *testing.T) {
	x := holding(api.Attr{Name: "A", Value: number(1), Params: []api.Attr{}}, api.Attr{Name: "B", Value: number(1), Braced: true, Params: []api.Attr{}})
	x.Objects = append(x.Objects, api.Object{Kind: "K", Name: "k", Attrs: []api.Attr{}})
	if s := printed(t, x); s != "OIL_VERSION = \"2.5\";\nCPU c {\n  TASK T {\n    A = 1;\n    B = 1 { };\n  };\n  K k { };\n};\n" {
		t.Errorf("%q", s)
	}
}

// ofLength is a tree whose text has so many bytes.
func ofLength(t *testing.T, n int) api.Tree {
	t.Helper()
	x := holding(slices.Repeat([]api.Attr{{Name: "A", Value: said(strings.Repeat("s", 90))}}, 2400)...)
	line := len("    A = \"\";\n") + 90
	rest := n - len(plainly(x, layout))
	for rest >= 2*line {
		x.Objects[0].Attrs = append(x.Objects[0].Attrs, x.Objects[0].Attrs[0])
		rest -= line
	}
	x.Objects[0].Attrs[7].Value.Text += strings.Repeat("t", min(rest, 150))
	x.Version += strings.Repeat("v", rest-min(rest, 150))
	if got := len(plainly(x, layout)); got != n {
		t.Fatal("a text of", got, "bytes, not", n)
	}
	return x
}

// P4.2: a text of just MaxOil bytes, and of more.
func TestPrintOfLongTexts(t *testing.T) {
	for _, n := range []int{api.MaxOil - 1, api.MaxOil} {
		x := ofLength(t, n)
		s := printed(t, x)
		if len(s) != n || s != plainly(x, layout) {
			t.Errorf("%d bytes, not %d", len(s), n)
		}
		if !printer.Same(parsed(t, s), x) {
			t.Error("another tree of", n, "bytes")
		}
	}
	for _, n := range []int{api.MaxOil + 1, api.MaxOil + 2, 2 * api.MaxOil} {
		x := ofLength(t, n)
		sound(t, printer.Fits(x))
		if s, f := printer.Print(x); s != "" || f.Code != api.ErrLong || len(f.Steps) != 0 {
			t.Errorf("%d bytes: %d of them, %v", n, len(s), f)
		}
		// A tree that no text has comes first, wherever it is at fault.
		x.Noted, x.Note = true, "\n"
		refused(t, x)
		x.Objects[0].Attrs[2000].Name = "-"
		refused(t, x, 0, 2000)
	}
}

// P4.2, P4.3: trees made by chance: the text is the chapter's, is read as the tree, and printed again is itself.
func TestPrintOfTreesByChance(t *testing.T) {
	for seed := range 2000 {
		m := maker{chance(seed)}
		x := m.tree()
		s := printed(t, x)
		if want := plainly(x, layout); s != want {
			t.Fatalf("%s\nnot\n%s", s, want)
		}
		read := parsed(t, s)
		if !printer.Same(read, x) || !reflect.DeepEqual(filled(printer.Plain(read)), filled(printer.Plain(x))) {
			t.Fatalf("%s\nis read as %+v, not %+v", s, read, x)
		}
		if again := printed(t, read); again != s {
			t.Fatalf("%s\nis printed again as\n%s", s, again)
		}
	}
}

// filled gives a tree with an empty list where there is none: nil and empty lists are the same.
func filled(t api.Tree) api.Tree {
	var fill func(l []api.Attr) []api.Attr
	fill = func(l []api.Attr) []api.Attr {
		m := []api.Attr{}
		for _, a := range l {
			a.Params = fill(a.Params)
			m = append(m, a)
		}
		return m
	}
	objects := []api.Object{}
	for _, o := range t.Objects {
		o.Attrs = fill(o.Attrs)
		objects = append(objects, o)
	}
	t.Objects = objects
	return t
}

// P4.3: texts whose trees are alike but for spots are printed alike, whatever stands between their tokens and however numbers are written.
func TestPrintOfTextsAlikeButForSpots(t *testing.T) {
	gaps := []string{" ", "\n", "\t\t", "/* ; */", "// }\n", " \r\n"}
	for seed := range 300 {
		m := maker{chance(seed)}
		x := m.tree()
		s := printed(t, x)
		for range 3 {
			text := plainly(x, func(int) string { return pick(&m.chance, gaps...) })
			if got := printed(t, parsed(t, text)); got != s {
				t.Fatalf("%q is printed as\n%s\nnot as\n%s", text, got, s)
			}
		}
	}
	one := parsed(t, `OIL_VERSION="2";CPU c{T t{A=0x0fF;B="\\";};};`)
	two := parsed(t, "OIL_VERSION = \"2\" ; // v\n\nCPU c { T t { A = 0XFF ; B = \"\\\\\" ; } ; } ;")
	if one.Objects[0].At == two.Objects[0].At || printed(t, one) != printed(t, two) {
		t.Error("texts alike are not printed alike")
	}
}

// P4.3: trees that are unlike are printed unlike, as far as they fit.
func TestPrintOfUnlikeTrees(t *testing.T) {
	seen := map[string]api.Tree{}
	for seed := range 2000 {
		m := maker{chance(seed)}
		x := m.tree()
		s := printed(t, x)
		if y, ok := seen[s]; ok && !printer.Same(x, y) {
			t.Fatalf("%+v and %+v are both printed as %s", x, y, s)
		}
		seen[s] = x
	}
	if len(seen) < 1000 {
		t.Error("only", len(seen), "texts")
	}
}

// R3: the tree is left as it is.
func TestPrintChangesNothing(t *testing.T) {
	x := fullTree()
	printed(t, x)
	if !reflect.DeepEqual(x, fullTree()) {
		t.Error("the tree was changed")
	}
	x.Note = "\n"
	y := fullTree()
	y.Note = "\n"
	refused(t, x)
	if !reflect.DeepEqual(x, y) {
		t.Error("the tree was changed")
	}
}

// P4.1, P4.2: trees that a program has turned: what another layer reads is what was meant.
func TestPrintOfATreeThatWasTurned(t *testing.T) {
	x := parsed(t, example)
	x.Objects[1].Attrs[0].Value.Number = 7
	x.Objects = append(x.Objects, api.Object{Kind: "TASK", Name: "T2"})
	y := parsed(t, printed(t, x))
	if n := tree.Find(y, "TASK", "T2"); n != 3 || !printer.Same(x, y) {
		t.Error(y)
	}
}
