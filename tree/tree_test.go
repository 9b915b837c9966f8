package tree_test

import (
	"iter"
	"slices"
	"strings"
	"testing"

	"tappet/api"
	"tappet/tree"
)

// P3.2
func TestFind(t *testing.T) {
	x := takes(t, head+"TASK T { }; EVENT T { A = 1; }; TASK U { }; EVENT T { }; TASK E { };"+tail)
	for _, y := range []struct {
		kind, name string
		want       int
	}{
		{"TASK", "T", 0}, {"EVENT", "T", 1}, {"TASK", "U", 2}, {"TASK", "E", 4},
		{"TASK", "t", -1}, {"task", "T", -1}, {"EVENT", "U", -1}, {"T", "TASK", -1}, {"A", "1", -1},
		{"", "", -1}, {"TASK", "", -1}, {"", "T", -1}, {"CPU", "c", -1}, {"TASK", "TT", -1}, {"TASK ", "T", -1},
	} {
		if n := tree.Find(x, y.kind, y.name); n != y.want {
			t.Errorf("Find(%s, %s): %d, not %d", y.kind, y.name, n, y.want)
		}
	}
	x = takes(t, head+"TASK T { PRIORITY = 1; };"+tail)
	if tree.Find(x, "TASK", "T") != 0 || tree.Find(x, "TASK", "t") != -1 {
		t.Error("the chapter's example")
	}
	if n := tree.Find(api.Tree{}, "", ""); n != -1 {
		t.Error("Find in nothing:", n)
	}
	if n := tree.Find(api.Tree{Objects: []api.Object{{Kind: "A"}, {}}}, "", ""); n != 1 {
		t.Error("Find of empty names:", n)
	}
}

func equalPaths(a, b [][]int) bool { return slices.EqualFunc(a, b, slices.Equal) }

// pathsOf is told by the chapter's words, object by object and level by level.
func pathsOf(t api.Tree) [][]int {
	var l [][]int
	var within func(path []int, attrs []api.Attr)
	within = func(path []int, attrs []api.Attr) {
		for i := range attrs {
			own := append(slices.Clone(path), i)
			l = append(l, own)
			within(own, attrs[i].Params)
		}
	}
	for i, o := range t.Objects {
		within([]int{i}, o.Attrs)
	}
	return l
}

// P3.3
func TestPaths(t *testing.T) {
	for _, x := range []struct {
		text string
		want [][]int
	}{
		{"", nil},
		{"T T { };", nil},
		{"TASK T { PRIORITY = 1; };", [][]int{{0, 0}}},
		{"T T { A = 1 { }; };", [][]int{{0, 0}}},
		{"T T { A = 1; A = 1; A = 2; };", [][]int{{0, 0}, {0, 1}, {0, 2}}},
		{"T T { }; U U { A = 1; }; V V { }; W W { A = 1; };", [][]int{{1, 0}, {3, 0}}},
		{"T T { A = 1 { B = 2; C = 3 { D = 4; }; E = 5; }; F = 6 { G = 7; }; }; U U { H = 8 { I = 9; }; };",
			[][]int{{0, 0}, {0, 0, 0}, {0, 0, 1}, {0, 0, 1, 0}, {0, 0, 2}, {0, 1}, {0, 1, 0}, {1, 0}, {1, 0, 0}}},
		{"T T { A = 1 { A = 1 { A = 1 { A = 1 { A = 1; B = 2; }; }; }; }; C = 3; };",
			[][]int{{0, 0}, {0, 0, 0}, {0, 0, 0, 0}, {0, 0, 0, 0, 0}, {0, 0, 0, 0, 0, 0}, {0, 0, 0, 0, 0, 1}, {0, 1}}},
	} {
		if l := slices.Collect(tree.Paths(takes(t, head+x.text+tail))); !equalPaths(l, x.want) {
			t.Errorf("Paths of %s: %v, not %v", x.text, l, x.want)
		}
	}
	for range tree.Paths(api.Tree{}) {
		t.Error("a path of nothing")
	}
}

// P3.3: paths lead through Params, whether Braced or not, however deep.
func TestPathsOfTreesThatNoTextHas(t *testing.T) {
	x := api.Tree{Objects: []api.Object{{Attrs: []api.Attr{{Params: []api.Attr{{Name: "in"}}}, {Braced: true}}}}}
	if l := slices.Collect(tree.Paths(x)); !equalPaths(l, [][]int{{0, 0}, {0, 0, 0}, {0, 1}}) {
		t.Error("paths without braces:", l)
	}
	if a, e := tree.Attr(x, []int{0, 0, 0}); e != api.OK || a.Name != "in" {
		t.Error("Attr without braces:", a, e)
	}
	const deep = 2000
	y := chain(deep)
	n := 0
	for p := range tree.Paths(y) {
		n++
		if len(p) != n+1 {
			t.Fatal("path", n, "has", len(p), "numbers")
		}
	}
	if n != deep {
		t.Error(n, "paths of", deep, "attributes")
	}
}

// chain is attributes one within the other.
func chain(n int) api.Tree {
	var l []api.Attr
	for range n {
		l = []api.Attr{{Name: "A", Params: l}}
	}
	return api.Tree{Objects: []api.Object{{Attrs: l}}}
}

// P3.3: paths, and the attributes at them, of trees made by chance.
func TestPathsByChance(t *testing.T) {
	c := chance(7)
	for range 100 {
		m := maker{c: &c, gaps: []string{" "}}
		x := m.tree()
		l := slices.Collect(tree.Paths(x))
		if !equalPaths(l, pathsOf(x)) {
			t.Fatal("paths:", l)
		}
		off := -1
		for _, p := range l {
			a, e := tree.Attr(x, p)
			if e != api.OK || a.At.Off <= off {
				t.Fatal("the attribute at", p, "stands at", a.At, "with", e)
			}
			off = a.At.Off
		}
		if n := strings.Count(m.text.String(), "=") - 1; n != len(l) {
			t.Error(len(l), "paths of", n, "attributes")
		}
	}
}

// P3.3: a ranging may be left at each place, and begun again, also while another one goes on.
func TestPathsLeftAndBegunAgain(t *testing.T) {
	x := takes(t, head+"T T { A = 1 { B = 2; C = 3 { D = 4; }; }; E = 5; }; U U { F = 6; };"+tail)
	all := pathsOf(x)
	paths := tree.Paths(x)
	for n := range len(all) + 1 {
		var l [][]int
		for p := range paths {
			if len(l) == n {
				break
			}
			l = append(l, p)
		}
		if !equalPaths(l, all[:n]) {
			t.Error("left behind", n, "paths:", l)
		}
		if l := slices.Collect(paths); !equalPaths(l, all) {
			t.Error("begun again behind", n, "paths:", l)
		}
	}
	for n := 1; n <= len(all); n++ {
		calls := 0
		paths(func([]int) bool {
			calls++
			return calls < n
		})
		if calls != n {
			t.Error("asked for", n, "paths,", calls, "came")
		}
	}
	for p := range paths {
		if l := slices.Collect(paths); !equalPaths(l, all) {
			t.Error("within", p, "another ranging:", l)
		}
	}
	one, stopOne := iter.Pull(paths)
	two, stopTwo := iter.Pull(paths)
	defer stopOne()
	defer stopTwo()
	for _, want := range all {
		p, _ := one()
		q, _ := two()
		if !slices.Equal(p, want) || !slices.Equal(q, want) {
			t.Error("two rangings side by side:", p, q, want)
		}
	}
}

// R3: who is handed a path may turn it, go on with it, and keep it.
func TestPathsAreNewMemory(t *testing.T) {
	x := takes(t, head+"T T { A = 1 { B = 2 { C = 3; }; C = 3; }; E = 5; }; U U { F = 6; };"+tail)
	all := pathsOf(x)
	i := 0
	var kept [][]int
	for p := range tree.Paths(x) {
		if !slices.Equal(p, all[i]) {
			t.Fatal("path", i, "is", p, "not", all[i])
		}
		kept = append(kept, slices.Clone(p))
		_ = append(p, -2)
		for j := range p {
			p[j] = -1
		}
		i++
	}
	if !equalPaths(kept, all) {
		t.Error("paths turned:", kept)
	}
	if l := slices.Collect(tree.Paths(x)); !equalPaths(l, all) {
		t.Error("paths kept:", l)
	}
}

// P3.3
func TestAttr(t *testing.T) {
	x := takes(t, head+`TASK T { PRIORITY = 1; A = B { C = "s" : "n"; D = 7 { E = F; }; } : "a"; }; U U { }; V V { G = 0xA; };`+tail)
	attrs := x.Objects[0].Attrs
	for _, y := range []struct {
		path []int
		want api.Attr
	}{
		{[]int{0, 0}, api.Attr{Name: "PRIORITY", At: first(38), Value: number(1)}},
		{[]int{0, 1}, attrs[1]},
		{[]int{0, 1, 0}, api.Attr{Name: "C", At: attrs[1].Params[0].At, Value: said("s"), Noted: true, Note: "n"}},
		{[]int{0, 1, 1}, attrs[1].Params[1]},
		{[]int{0, 1, 1, 0}, attrs[1].Params[1].Params[0]},
		{[]int{2, 0}, x.Objects[2].Attrs[0]},
	} {
		a, e := tree.Attr(x, y.path)
		if e != api.OK || !alike([]api.Attr{a}, []api.Attr{y.want}) {
			t.Errorf("Attr at %v: %v %d, not %v", y.path, a, e, y.want)
		}
	}
	for _, path := range [][]int{nil, {}, {0}, {1}, {2}, {3}, {-1}, {0, 2}, {0, -1}, {1, 0}, {1, -1}, {2, 1}, {3, 0}, {-1, 0}, {0, 0, 0}, {0, 1, 2}, {0, 1, -1}, {0, 1, 0, 0}, {0, 1, 1, 1}, {0, 1, 1, 0, 0}, {0, 2, 0}, {0, 1, 2, 0}, {1 << 62, 0}, {0, 1 << 62}, {-1 << 63, 0}, {0, -1 << 63}} {
		if a, e := tree.Attr(x, path); e != api.ErrArg || !alike([]api.Attr{a}, []api.Attr{{}}) {
			t.Errorf("Attr at %v: %v %d", path, a, e)
		}
	}
	if _, e := tree.Attr(api.Tree{}, []int{0, 0}); e != api.ErrArg {
		t.Error("Attr of nothing:", e)
	}
}

// R3: what Attr answers is the caller's own, and the path stays as it was.
func TestAttrAnswersNewMemory(t *testing.T) {
	s := inTask("A = B { C = D { E = F; }; G = H; };")
	x := takes(t, s)
	path := []int{0, 0}
	a, _ := tree.Attr(x, path)
	a.Params[0].Params[0].Name = "turned"
	a.Params[0].Name = "turned"
	a.Params[1].Params = []api.Attr{{}}
	if !alikeTrees(x, takes(t, s)) {
		t.Error("turned with an answer:", x)
	}
	b, _ := tree.Attr(x, path)
	x.Objects[0].Attrs[0].Params[0].Params[0].Name = "turned"
	x.Objects[0].Attrs[0].Params[1].Name = "turned"
	if !alike([]api.Attr{b}, takes(t, s).Objects[0].Attrs) {
		t.Error("turned with the tree:", b)
	}
	if !slices.Equal(path, []int{0, 0}) {
		t.Error("the path was turned:", path)
	}
}

// R1: as many parts nested in one another as the bound allows.
func TestAttrOfTheDeepest(t *testing.T) {
	const deep = 1 << 16
	a, e := tree.Attr(chain(deep), []int{0, 0})
	n := 1
	for l := a.Params; len(l) > 0; l = l[0].Params {
		n++
	}
	if e != api.OK || n != deep {
		t.Error(n, "attributes within one another,", e)
	}
	b, e := tree.Attr(chain(deep), make([]int, deep+1))
	if e != api.OK || b.Name != "A" || len(b.Params) != 0 {
		t.Error("the innermost:", b, e)
	}
	if _, e := tree.Attr(chain(deep), make([]int, deep+2)); e != api.ErrArg {
		t.Error("within the innermost:", e)
	}
}
