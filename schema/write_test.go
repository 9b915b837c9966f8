package schema_test

import (
	"reflect"
	"slices"
	"strings"
	"testing"

	"tappet/api"
	"tappet/printer"
	"tappet/schema"
	"tappet/tree"
)

// everySheet is a sheet with items of every kind.
func everySheet(t *testing.T) api.Sheet {
	t.Helper()
	x, _ := inText(t, everyKind)
	return takes(t, x)
}

// asWritten is the tree that P5.3 tells of a sheet, whether it may be or not: what is in doubt is left to the reader.
func asWritten(s api.Sheet) api.Tree {
	t := api.Tree{Version: "2.5", CPU: s.CPU}
	var attrs func(object string, under [2]string, l []api.Entry) []api.Attr
	attrs = func(object string, under [2]string, l []api.Entry) []api.Attr {
		var out []api.Attr
		for _, e := range l {
			a := is(e.Name, named(e.Word))
			rows := linesAt(object, under)
			i := slices.IndexFunc(rows, func(r line) bool { return r.name == e.Name })
			switch {
			case i < 0:
			case e.Auto:
				a.Value = named("AUTO")
			case rows[i].numeric():
				a.Value = number(e.Number)
			case rows[i].value[0] == "text":
				a.Value = said(e.Word)
			}
			a.Braced = len(linesAt(object, [2]string{e.Name, e.Word})) > 0
			if len(under[0]) == 0 {
				a.Params = attrs(object, [2]string{e.Name, e.Word}, e.Params)
			}
			out = append(out, a)
		}
		return out
	}
	for _, item := range s.Items {
		t.Objects = append(t.Objects, api.Object{Kind: item.Kind, Name: item.Name, Attrs: attrs(item.Kind, [2]string{}, item.Entries)})
	}
	return t
}

// namesRight tells whether the names and the texts of a sheet that Read could give are such of layer 2.
func namesRight(s api.Sheet) bool {
	var right func(object string, under [2]string, l []api.Entry) bool
	right = func(object string, under [2]string, l []api.Entry) bool {
		for _, e := range l {
			for _, r := range linesAt(object, under) {
				if r.name == e.Name && (r.value[0] == "ref" && !nameOf2(e.Word) || r.value[0] == "text" && !stringOf2(e.Word)) {
					return false
				}
			}
			if !right(object, [2]string{e.Name, e.Word}, e.Params) {
				return false
			}
		}
		return true
	}
	for _, item := range s.Items {
		if !nameOf2(item.Name) || !right(item.Kind, [2]string{}, item.Entries) {
			return false
		}
	}
	return nameOf2(s.CPU)
}

// mayBe tells whether a sheet is of P5.2's form, by the second reading of the chapter: it is what is read of its own tree.
func mayBe(s api.Sheet) bool {
	back, f := asTold(asWritten(s))
	return f.Code == api.OK && alike(back, s) && namesRight(s)
}

// writtenAsTold holds Write of a sheet against that; it answers whether the sheet may be.
func writtenAsTold(t *testing.T, what string, s api.Sheet) bool {
	t.Helper()
	if !mayBe(s) {
		writesNot(t, what, s)
		return false
	}
	x, want := writes(t, s), asWritten(s)
	if !printer.Same(x, want) || !reflect.DeepEqual(printer.Plain(x), x) {
		t.Errorf("%s: Write(%s): %s, not %s", what, short(s), short(x), short(want))
	}
	return true
}

// P5.3: a tree of every kind of object, told by hand.
func TestWriteOfEveryKind(t *testing.T) {
	const text = `OIL_VERSION = "2.5";
CPU c {
  OS o {
    STATUS = STANDARD;
    STARTUPHOOK = FALSE;
    ERRORHOOK = TRUE;
    SHUTDOWNHOOK = FALSE;
    PRETASKHOOK = FALSE;
    POSTTASKHOOK = FALSE;
    USEGETSERVICEID = FALSE;
    USEPARAMETERACCESS = FALSE;
    USERESSCHEDULER = FALSE;
  };
  APPMODE m { };
  TASK T {
    PRIORITY = 63;
    SCHEDULE = NON;
    ACTIVATION = 10;
    AUTOSTART = TRUE {
      APPMODE = m;
      APPMODE = k;
      APPMODE = m;
    };
    RESOURCE = R;
    RESOURCE = Q;
    EVENT = F;
    EVENT = E;
    EVENT = F;
    MESSAGE = N;
  };
  ISR I {
    CATEGORY = 2;
    PRIORITY = 64;
    MESSAGE = N;
    MESSAGE = M;
  };
  RESOURCE R {
    RESOURCEPROPERTY = LINKED {
      LINKEDRESOURCE = Q;
    };
  };
  EVENT E {
    MASK = 4294967295;
  };
  EVENT E {
    MASK = AUTO;
  };
  COUNTER C {
    MAXALLOWEDVALUE = 1;
    TICKSPERBASE = 2;
    MINCYCLE = 3;
  };
  ALARM A {
    COUNTER = C;
    ACTION = SETEVENT {
      TASK = T;
      EVENT = E;
    };
    AUTOSTART = TRUE {
      ALARMTIME = 0;
      CYCLETIME = 7;
      APPMODE = m;
    };
  };
  ALARM B {
    COUNTER = C;
    ACTION = ALARMCALLBACK {
      ALARMCALLBACKNAME = "call \"it\"";
    };
    AUTOSTART = FALSE;
  };
  MESSAGE S {
    MESSAGEPROPERTY = SEND_STATIC_INTERNAL {
      CDATATYPE = "uint16";
    };
    NOTIFICATION = NONE;
  };
  MESSAGE U {
    MESSAGEPROPERTY = RECEIVE_UNQUEUED_INTERNAL {
      SENDINGMESSAGE = S;
      INITIALVALUE = 0;
    };
    NOTIFICATION = FLAG {
      FLAGNAME = "";
    };
  };
  MESSAGE Q {
    MESSAGEPROPERTY = RECEIVE_QUEUED_INTERNAL {
      SENDINGMESSAGE = S;
      QUEUESIZE = 16;
    };
    NOTIFICATION = NONE;
  };
};
`
	x := writes(t, everySheet(t))
	if got, f := printer.Print(x); f.Code != api.OK || got != text {
		t.Errorf("%v:\n%s", f, got)
	}
	if !reflect.DeepEqual(printer.Plain(x), x) {
		t.Error("spots are written")
	}
	writtenAsTold(t, "every kind", everySheet(t))
}

// P5.3: braces where there are parameters under the word, also where none of them stands there.
func TestWriteOfBraces(t *testing.T) {
	task := func(word string, params ...api.Entry) api.Sheet {
		return api.Sheet{CPU: "c", Items: []api.Item{{Kind: "TASK", Name: "t", Entries: []api.Entry{
			{Name: "PRIORITY", Number: 1}, {Name: "SCHEDULE", Word: "FULL"}, {Name: "ACTIVATION", Number: 1}, {Name: "AUTOSTART", Word: word, Params: params}}}}}
	}
	for _, x := range []struct {
		s      api.Sheet
		braced bool
	}{
		{task("FALSE"), false},
		{task("TRUE"), true},
		{task("TRUE", api.Entry{Name: "APPMODE", Word: "m"}), true},
	} {
		l := writes(t, x.s).Objects[0].Attrs
		for i, a := range l {
			if a.Braced != (x.braced && i == 3) {
				t.Errorf("%+v", a)
			}
		}
		if len(l) != 4 || len(l[3].Params) != len(x.s.Items[0].Entries[3].Params) {
			t.Errorf("%+v", l)
		}
	}
	writesNot(t, "a parameter of FALSE", task("FALSE", api.Entry{Name: "APPMODE", Word: "m"}))
}

// P5.3: sheets without items, and without a name.
func TestWriteOfSmallSheets(t *testing.T) {
	if x := writes(t, api.Sheet{CPU: "c"}); !printer.Same(x, api.Tree{Version: "2.5", CPU: "c"}) {
		t.Error(x)
	}
	writesNot(t, "the zero sheet", api.Sheet{})
	writesNot(t, "a zero item", api.Sheet{CPU: "c", Items: make([]api.Item, 1)})
	writesNot(t, "a zero entry", api.Sheet{CPU: "c", Items: []api.Item{{Kind: "APPMODE", Name: "m", Entries: make([]api.Entry, 1)}}})
	writesNot(t, "nothing of a task", api.Sheet{CPU: "c", Items: []api.Item{{Kind: "TASK", Name: "t"}}})
	for _, kind := range []string{"", "THING", "task", "CPU", "APPMODE "} {
		writesNot(t, "the kind "+kind, api.Sheet{CPU: "c", Items: []api.Item{{Kind: kind, Name: "m"}}})
	}
}

// entryLists visits each list of entries of a sheet, with the lines of its place.
func entryLists(s *api.Sheet, visit func(l *[]api.Entry, rows []line)) {
	for i := range s.Items {
		item := &s.Items[i]
		visit(&item.Entries, linesAt(item.Kind, [2]string{}))
		for j := range item.Entries {
			e := &item.Entries[j]
			visit(&e.Params, linesAt(item.Kind, [2]string{e.Name, e.Word}))
		}
	}
}

// turned hands each sheet that differs from the one with every kind by one turning: turning k is the k-th that change is told to make; it answers how many of them there are.
func turned(t *testing.T, change func(s *api.Sheet, k int) bool, hold func(s api.Sheet, k int)) int {
	t.Helper()
	for k := 0; ; k++ {
		s := filledSheet(everySheet(t), false)
		if !change(&s, k) {
			return k
		}
		hold(s, k)
	}
}

// P5.3: one field of one entry, of one item, of the sheet turned to something else.
func TestWriteOfEachFieldTurned(t *testing.T) {
	refused, taken := 0, 0
	turnings := []func(e *api.Entry){
		func(e *api.Entry) { e.Name += "X" },
		func(e *api.Entry) { e.Name = "" },
		func(e *api.Entry) { e.Name = strings.ToLower(e.Name) },
		func(e *api.Entry) { e.Number++ },
		func(e *api.Entry) { e.Number-- },
		func(e *api.Entry) { e.Number = 1 << 31 },
		func(e *api.Entry) { e.Auto = !e.Auto },
		func(e *api.Entry) { e.Word += "X" },
		func(e *api.Entry) { e.Word += " " },
		func(e *api.Entry) { e.Word = "" },
		func(e *api.Entry) { e.Word = "AUTO" },
		func(e *api.Entry) { e.Word = "TRUE" },
		func(e *api.Entry) { e.Word = "FALSE" },
		func(e *api.Entry) { e.Word, e.Number = "", 0 },
		func(e *api.Entry) { e.Word, e.Auto = "AUTO", true },
		func(e *api.Entry) { e.Number, e.Auto = 0, true },
		func(e *api.Entry) { e.Params = nil },
		func(e *api.Entry) { e.Params = append(e.Params, api.Entry{}) },
		func(e *api.Entry) { e.Params = append(e.Params, api.Entry{Name: "APPMODE", Word: "m"}) },
		func(e *api.Entry) { e.Params = append(e.Params, api.Entry{Name: e.Name, Word: e.Word}) },
	}
	for i, turning := range turnings {
		n := turned(t, func(s *api.Sheet, k int) bool {
			entryLists(s, func(l *[]api.Entry, _ []line) {
				for j := range *l {
					if k == 0 {
						turning(&(*l)[j])
					}
					k--
				}
			})
			return k < 0
		}, func(s api.Sheet, k int) {
			if writtenAsTold(t, "an entry turned", s) {
				taken++
			} else {
				refused++
			}
		})
		if n != 57 {
			t.Fatal("turning", i, "of", n, "entries")
		}
	}
	if refused < 700 || taken < 100 {
		t.Error(refused, "refused,", taken, "taken")
	}
	for i, item := range everySheet(t).Items {
		for _, kind := range append(schema.Kinds(), "", "THING", strings.ToLower(item.Kind)) {
			s := everySheet(t)
			s.Items[i].Kind = kind
			if writtenAsTold(t, "another kind", s) != (kind == item.Kind) {
				t.Error(item.Kind, "as", kind)
			}
		}
	}
}

// P5.3: an entry more, an entry fewer, two in another order.
func TestWriteOfOrderAndTimes(t *testing.T) {
	often := func(rows []line, name string) bool {
		return slices.ContainsFunc(rows, func(r line) bool { return r.name == name && r.any() })
	}
	// Each turning answers whether Write must take what comes of it.
	for what, turning := range map[string]func(l *[]api.Entry, rows []line, j int) bool{
		"left out": func(l *[]api.Entry, rows []line, j int) bool {
			name := (*l)[j].Name
			*l = slices.Delete(slices.Clone(*l), j, j+1)
			return often(rows, name)
		},
		"doubled": func(l *[]api.Entry, rows []line, j int) bool {
			name := (*l)[j].Name
			*l = slices.Insert(slices.Clone(*l), j, (*l)[j])
			return often(rows, name)
		},
		"put behind the next one": func(l *[]api.Entry, rows []line, j int) bool {
			if j+1 == len(*l) {
				return true
			}
			(*l)[j], (*l)[j+1] = (*l)[j+1], (*l)[j]
			return (*l)[j].Name == (*l)[j+1].Name
		},
		"put behind all": func(l *[]api.Entry, rows []line, j int) bool {
			e := (*l)[j]
			*l = append(slices.Delete(slices.Clone(*l), j, j+1), e)
			return !slices.ContainsFunc((*l)[j:], func(f api.Entry) bool { return f.Name != e.Name })
		},
	} {
		var must bool
		n := turned(t, func(s *api.Sheet, k int) bool {
			entryLists(s, func(l *[]api.Entry, rows []line) {
				if 0 <= k && k < len(*l) {
					must = turning(l, rows, k)
					k = -1
				} else {
					k -= len(*l)
				}
			})
			return k < 0
		}, func(s api.Sheet, k int) {
			if writtenAsTold(t, what, s) != must {
				t.Errorf("%s, %d: %s", what, k, short(s))
			}
		})
		if n < 50 {
			t.Error(what, n, "times")
		}
	}
}

// P5.3: names that are no names and texts that are no strings, at each place where one stands.
func TestWriteOfNamesAndTexts(t *testing.T) {
	for _, good := range []bool{true, false} {
		names, texts := goodNames(), goodStrings()
		if !good {
			names, texts = badNames(), badStrings()
		}
		for _, name := range names {
			if nameOf2(name) != good {
				t.Fatalf("%q", name)
			}
			s := everySheet(t)
			s.CPU = name
			hold(t, good, "the CPU", s)
			for i := range s.Items {
				s := everySheet(t)
				s.Items[i].Name = name
				hold(t, good, "an item's name", s)
			}
		}
		for _, r := range lines {
			words := names
			if r.value[0] == "text" && len(r.words()) == 0 {
				words = texts
			} else if r.value[0] != "ref" {
				continue
			}
			for _, w := range words {
				x, a := setOf(r, r.right(0))
				a.Value.Text = w
				hold(t, good, r.name, takes(t, x))
			}
		}
	}
}

func hold(t *testing.T, good bool, what string, s api.Sheet) {
	t.Helper()
	if !good {
		writesNot(t, what, s)
	} else if back := takes(t, writes(t, s)); !alike(back, s) {
		t.Errorf("%s: %s is read as %s", what, short(s), short(back))
	}
}

// P5.3: each number of each range, and beyond it, as an entry.
func TestWriteOfRanges(t *testing.T) {
	for _, r := range lines {
		if !r.numeric() {
			continue
		}
		lo, hi := r.bounds()
		for _, v := range []uint32{0, lo - 1, lo, lo + 1, hi - 1, hi, hi + 1, 1<<32 - 1} {
			x, _ := setOf(r, r.right(0))
			s := takes(t, x)
			entryLists(&s, func(l *[]api.Entry, rows []line) {
				for i := range *l {
					if (*l)[i].Name == r.name {
						(*l)[i].Number = v
					}
				}
			})
			if writtenAsTold(t, r.name, s) != (lo <= v && v <= hi) {
				t.Error(r.object, r.name, v)
			}
		}
	}
}

// spoilSheet turns one thing of a sheet by chance.
func (m *maker) spoilSheet(s *api.Sheet) {
	var lists []*[]api.Entry
	entryLists(s, func(l *[]api.Entry, _ []line) { lists = append(lists, l) })
	if len(lists) == 0 {
		return
	}
	l := lists[m.below(len(lists))]
	r := lines[m.below(len(lines))]
	if len(*l) == 0 {
		if m.below(4) == 0 {
			*l = append(*l, api.Entry{Name: r.name, Word: "a"})
		}
		return
	}
	i := m.below(len(*l))
	e := &(*l)[i]
	switch m.below(9) {
	case 0:
		*l = slices.Delete(*l, i, i+1)
	case 1:
		*l = slices.Insert(*l, i, (*l)[m.below(len(*l))])
	case 2:
		j := m.below(len(*l))
		(*l)[i], (*l)[j] = (*l)[j], (*l)[i]
	case 3:
		e.Name = r.name
	case 4:
		e.Number = pick[uint32](&m.chance, 0, 1, 2, 16, 63, 64, 127, 255, 256, 1<<31)
	case 5:
		e.Auto = !e.Auto
	case 6:
		e.Word = pick(&m.chance, m.value(r).Text, "", "no name", "TRUE", "AUTO", "\n")
	case 7:
		e.At = spot(m.below(9))
	case 8:
		s.Items[m.below(len(s.Items))].Kind = pick(&m.chance, schema.Kinds()...)
	}
}

// P5.3: sheets by chance, whole and spoilt, held against the second reading.
func TestWriteAsTheChapterSays(t *testing.T) {
	taken, refused := 0, 0
	for seed := range 4000 {
		m := maker{chance(seed)}
		s := filledSheet(takes(t, m.tree()), false)
		if !writtenAsTold(t, "whole", s) {
			t.Fatal(short(s))
		}
		for range 1 + m.below(3) {
			m.spoilSheet(&s)
			if writtenAsTold(t, "spoilt", s) {
				taken++
			} else {
				refused++
			}
		}
	}
	if taken < 1000 || refused < 2000 {
		t.Error(taken, "taken,", refused, "refused")
	}
}

// R1: entries that hold themselves, and deep ones.
func TestWriteOfDeepSheets(t *testing.T) {
	loop := []api.Entry{{Name: "RESOURCEPROPERTY", Word: "LINKED"}}
	loop[0].Params = loop
	writesNot(t, "a loop", api.Sheet{CPU: "c", Items: []api.Item{{Kind: "RESOURCE", Name: "r", Entries: loop}}})
	deep := []api.Entry{{Name: "LINKEDRESOURCE", Word: "LINKED"}}
	for range 1 << 16 {
		deep = []api.Entry{{Name: "LINKEDRESOURCE", Word: "LINKED", Params: deep}}
	}
	writesNot(t, "a deep one", api.Sheet{CPU: "c", Items: []api.Item{{Kind: "RESOURCE", Name: "r", Entries: []api.Entry{{Name: "RESOURCEPROPERTY", Word: "LINKED", Params: deep}}}}})
}

// P5.4, W2: there and back, from trees and from sheets, and by way of a text.
func TestThereAndBack(t *testing.T) {
	for seed := range 3000 {
		m := maker{chance(seed)}
		s := takes(t, m.tree())
		x := writes(t, s)
		back := takes(t, x)
		if !alike(back, s) {
			t.Fatalf("%s is read as %s", short(s), short(back))
		}
		if again := writes(t, back); !printer.Same(again, x) {
			t.Fatalf("%s is written as %s", short(x), short(again))
		}
		text, flaw := printer.Print(x)
		if flaw.Code != api.OK {
			t.Fatalf("Print(%s): %v", short(x), flaw)
		}
		y, f := tree.Parse(text)
		if f.Code != api.OK || !printer.Same(x, y) {
			t.Fatalf("Parse(%s): %v", short(text), f)
		}
		if third := takes(t, y); !alike(third, s) {
			t.Fatalf("%s is read of a text as %s", short(s), short(third))
		}
	}
}

// P5.4: what Read takes has each attribute as often as the table says, and each value of its kind and range.
func TestReadTakesWhatTheTableSays(t *testing.T) {
	taken := 0
	for seed := range 10000 {
		m := maker{chance(seed)}
		x := m.tree()
		m.spoil(&x)
		s, f := schema.Read(x)
		if f.Code != api.OK {
			continue
		}
		taken++
		entryLists(&s, func(l *[]api.Entry, rows []line) {
			for _, r := range rows {
				n := 0
				for _, e := range *l {
					if e.Name != r.name {
						continue
					}
					n++
					lo, hi := r.bounds1()
					if r.numeric() && !e.Auto && (e.Number < lo || e.Number > hi) || e.Auto && !r.orAuto() || len(r.words()) > 0 && !slices.Contains(r.words(), e.Word) {
						t.Errorf("%+v of %+v", e, r)
					}
				}
				if !r.any() && n != 1 {
					t.Errorf("%d of %+v", n, r)
				}
			}
		})
	}
	if taken < 1000 {
		t.Error(taken, "taken")
	}
}

// R3: a tree is new memory, and the sheet is left as it is.
func TestWriteKeepsAndChangesNothing(t *testing.T) {
	s := everySheet(t)
	x, y := writes(t, s), writes(t, s)
	turn(reflect.ValueOf(&x).Elem())
	if !same(s, everySheet(t)) {
		t.Error("the sheet was changed")
	}
	if !printer.Same(y, writes(t, everySheet(t))) {
		t.Error("two trees share memory")
	}
	turn(reflect.ValueOf(&s).Elem())
	if !printer.Same(y, writes(t, everySheet(t))) {
		t.Error("a tree shares memory with its sheet")
	}
	for _, o := range y.Objects {
		_ = append(o.Attrs, api.Attr{Name: "more"})
		for _, a := range o.Attrs {
			_ = append(a.Params, api.Attr{Name: "more"})
		}
	}
	if !printer.Same(y, writes(t, everySheet(t))) {
		t.Error("lists of one tree share memory")
	}
}
