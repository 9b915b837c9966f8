package schema_test

import (
	"reflect"
	"slices"
	"strings"
	"testing"

	"tappet/api"
	"tappet/schema"
	"tappet/token"
	"tappet/tree"
)

// inText is the tree of a text with these objects, and the text.
func inText(t *testing.T, objects string) (api.Tree, string) {
	t.Helper()
	text := `OIL_VERSION = "2.5"; CPU c { ` + objects + ` };`
	x, f := tree.Parse(text)
	if f != (api.Fault{}) {
		t.Fatalf("Parse(%q): %v", text, f)
	}
	return x, text
}

// textRefused: Read of a text with these objects tells a fault at the n-th place (from 0 on) where a word stands in it.
func textRefused(t *testing.T, objects string, code api.Errno, name, word string, n int) {
	t.Helper()
	x, text := inText(t, objects)
	off := 0
	for range n + 1 {
		off += strings.Index(text[off:], word) + 1
	}
	refuses(t, x, code, token.At(text, off-1), name)
}

// P5.2: the chapter's examples.
func TestReadOfTheExamples(t *testing.T) {
	x, text := inText(t, "TASK T { PRIORITY = 1; SCHEDULE = FULL; ACTIVATION = 1; AUTOSTART = FALSE; };")
	at := func(word string) api.Spot { return token.At(text, strings.Index(text, word)) }
	want := api.Sheet{CPU: "c", Items: []api.Item{{Kind: "TASK", Name: "T", At: at("TASK"), Entries: []api.Entry{
		{Name: "PRIORITY", At: at("PRIORITY"), Number: 1},
		{Name: "SCHEDULE", At: at("SCHEDULE"), Word: "FULL"},
		{Name: "ACTIVATION", At: at("ACTIVATION"), Number: 1},
		{Name: "AUTOSTART", At: at("AUTOSTART"), Word: "FALSE"},
	}}}}
	if s := takes(t, x); !same(s, want) {
		t.Errorf("the first example: %+v, not %+v", s, want)
	}
	textRefused(t, "TASK T { PRIORITY = 1; SCHEDULE = FULL; AUTOSTART = FALSE; };", api.ErrMissing, "ACTIVATION", "TASK", 0)

	x, _ = inText(t, "EVENT E { }; OS o { };")
	s := takes(t, x)
	if !reflect.DeepEqual(filled(s.Items[0].Entries, false), filled([]api.Entry{{Name: "MASK", Auto: true}}, false)) {
		t.Errorf("the second example: %+v", s.Items[0])
	}
	if l := s.Items[1].Entries; len(l) != 9 || !reflect.DeepEqual(filled(l[8:], false), filled([]api.Entry{{Name: "USERESSCHEDULER", Word: "TRUE"}}, false)) {
		t.Errorf("the second example: %+v", l)
	}

	task := func(auto string) string {
		return "TASK T { PRIORITY = 1; SCHEDULE = FULL; ACTIVATION = 1; " + auto + " };"
	}
	alarm := func(action string) string {
		return "ALARM A { COUNTER = C; AUTOSTART = FALSE; " + action + " };"
	}
	x, _ = inText(t, task("AUTOSTART = TRUE;"))
	if e := takes(t, x).Items[0].Entries[3]; e.Word != "TRUE" || len(e.Params) != 0 {
		t.Errorf("the third example: %+v", e)
	}
	textRefused(t, task("AUTOSTART = FALSE { };"), api.ErrBraces, "AUTOSTART", "AUTOSTART", 0)
	textRefused(t, alarm("ACTION = SETEVENT { TASK = T; };"), api.ErrMissing, "EVENT", "ACTION", 0)
	textRefused(t, alarm("ACTION = ACTIVATETASK;"), api.ErrBraces, "ACTION", "ACTION", 0)
	textRefused(t, "TASK T { PRIORITY = 64; };", api.ErrRange, "PRIORITY", "PRIORITY", 0)
	textRefused(t, `TASK T { PRIORITY = "1"; };`, api.ErrKind, "PRIORITY", "PRIORITY", 0)
	textRefused(t, "TASK T { PRIORITY = 1; PRIORITY = 1; };", api.ErrRepeated, "PRIORITY", "PRIORITY", 1)
	textRefused(t, "THING t { };", api.ErrObject, "THING", "THING", 0)
}

const everyKind = `
OS o { USERESSCHEDULER = FALSE; STATUS = STANDARD; ERRORHOOK = TRUE; } : "the os";
APPMODE m { };
TASK T { MESSAGE = N; EVENT = F; RESOURCE = R; AUTOSTART = TRUE { APPMODE = m; APPMODE = k; APPMODE = m; };
  EVENT = E; ACTIVATION = 0x0A; RESOURCE = Q; SCHEDULE = NON; EVENT = F; PRIORITY = 63 : "high"; };
ISR I { MESSAGE = N; PRIORITY = 64; MESSAGE = M; CATEGORY = 2; };
RESOURCE R { RESOURCEPROPERTY = LINKED { LINKEDRESOURCE = Q; }; };
EVENT E { MASK = 0xFFFFFFFF; };
EVENT E { MASK = AUTO; };
COUNTER C { MINCYCLE = 3; TICKSPERBASE = 2; MAXALLOWEDVALUE = 1; };
ALARM A { AUTOSTART = TRUE { APPMODE = m; CYCLETIME = 7; ALARMTIME = 0; }; ACTION = SETEVENT { EVENT = E; TASK = T; }; COUNTER = C; };
ALARM B { COUNTER = C; ACTION = ALARMCALLBACK { ALARMCALLBACKNAME = "call \"it\""; }; AUTOSTART = FALSE; };
MESSAGE S { MESSAGEPROPERTY = SEND_STATIC_INTERNAL { CDATATYPE = "uint16"; }; };
MESSAGE U { NOTIFICATION = FLAG { FLAGNAME = ""; }; MESSAGEPROPERTY = RECEIVE_UNQUEUED_INTERNAL { SENDINGMESSAGE = S; }; };
MESSAGE Q { NOTIFICATION = NONE; MESSAGEPROPERTY = RECEIVE_QUEUED_INTERNAL { QUEUESIZE = 16; SENDINGMESSAGE = S; }; };
`

// P5.2: ordinary objects of every kind, their entries by the table's order, each with the spot that it has in the text, and a zero one where it is filled in.
func TestReadOfEveryKind(t *testing.T) {
	type entries = []api.Entry
	items := []api.Item{
		{Kind: "OS", Name: "o", Entries: entries{
			{Name: "STATUS", Word: "STANDARD"}, {Name: "STARTUPHOOK", Word: "FALSE"}, {Name: "ERRORHOOK", Word: "TRUE"}, {Name: "SHUTDOWNHOOK", Word: "FALSE"},
			{Name: "PRETASKHOOK", Word: "FALSE"}, {Name: "POSTTASKHOOK", Word: "FALSE"}, {Name: "USEGETSERVICEID", Word: "FALSE"},
			{Name: "USEPARAMETERACCESS", Word: "FALSE"}, {Name: "USERESSCHEDULER", Word: "FALSE"}}},
		{Kind: "APPMODE", Name: "m"},
		{Kind: "TASK", Name: "T", Entries: entries{
			{Name: "PRIORITY", Number: 63}, {Name: "SCHEDULE", Word: "NON"}, {Name: "ACTIVATION", Number: 10},
			{Name: "AUTOSTART", Word: "TRUE", Params: entries{{Name: "APPMODE", Word: "m"}, {Name: "APPMODE", Word: "k"}, {Name: "APPMODE", Word: "m"}}},
			{Name: "RESOURCE", Word: "R"}, {Name: "RESOURCE", Word: "Q"}, {Name: "EVENT", Word: "F"}, {Name: "EVENT", Word: "E"}, {Name: "EVENT", Word: "F"}, {Name: "MESSAGE", Word: "N"}}},
		{Kind: "ISR", Name: "I", Entries: entries{{Name: "CATEGORY", Number: 2}, {Name: "PRIORITY", Number: 64}, {Name: "MESSAGE", Word: "N"}, {Name: "MESSAGE", Word: "M"}}},
		{Kind: "RESOURCE", Name: "R", Entries: entries{{Name: "RESOURCEPROPERTY", Word: "LINKED", Params: entries{{Name: "LINKEDRESOURCE", Word: "Q"}}}}},
		{Kind: "EVENT", Name: "E", Entries: entries{{Name: "MASK", Number: 4294967295}}},
		{Kind: "EVENT", Name: "E", Entries: entries{{Name: "MASK", Auto: true}}},
		{Kind: "COUNTER", Name: "C", Entries: entries{{Name: "MAXALLOWEDVALUE", Number: 1}, {Name: "TICKSPERBASE", Number: 2}, {Name: "MINCYCLE", Number: 3}}},
		{Kind: "ALARM", Name: "A", Entries: entries{{Name: "COUNTER", Word: "C"},
			{Name: "ACTION", Word: "SETEVENT", Params: entries{{Name: "TASK", Word: "T"}, {Name: "EVENT", Word: "E"}}},
			{Name: "AUTOSTART", Word: "TRUE", Params: entries{{Name: "ALARMTIME"}, {Name: "CYCLETIME", Number: 7}, {Name: "APPMODE", Word: "m"}}}}},
		{Kind: "ALARM", Name: "B", Entries: entries{{Name: "COUNTER", Word: "C"},
			{Name: "ACTION", Word: "ALARMCALLBACK", Params: entries{{Name: "ALARMCALLBACKNAME", Word: `call "it"`}}}, {Name: "AUTOSTART", Word: "FALSE"}}},
		{Kind: "MESSAGE", Name: "S", Entries: entries{{Name: "MESSAGEPROPERTY", Word: "SEND_STATIC_INTERNAL", Params: entries{{Name: "CDATATYPE", Word: "uint16"}}}, {Name: "NOTIFICATION", Word: "NONE"}}},
		{Kind: "MESSAGE", Name: "U", Entries: entries{{Name: "MESSAGEPROPERTY", Word: "RECEIVE_UNQUEUED_INTERNAL", Params: entries{{Name: "SENDINGMESSAGE", Word: "S"}, {Name: "INITIALVALUE"}}},
			{Name: "NOTIFICATION", Word: "FLAG", Params: entries{{Name: "FLAGNAME"}}}}},
		{Kind: "MESSAGE", Name: "Q", Entries: entries{{Name: "MESSAGEPROPERTY", Word: "RECEIVE_QUEUED_INTERNAL", Params: entries{{Name: "SENDINGMESSAGE", Word: "S"}, {Name: "QUEUESIZE", Number: 16}}}, {Name: "NOTIFICATION", Word: "NONE"}}},
	}
	x, text := inText(t, everyKind)
	s := takes(t, x)
	if !alike(s, api.Sheet{CPU: "c", Items: items}) {
		t.Errorf("%+v, not %+v", s, items)
	}
	follows(t, x)
	// Each spot is one where the text has that name, and no two of them are one; those that the text has not are zero.
	seen := map[int]bool{}
	left := 0
	var look func(l []api.Entry)
	look = func(l []api.Entry) {
		for _, e := range l {
			if e.At == (api.Spot{}) {
				left++
				continue
			}
			if seen[e.At.Off] || e.At != token.At(text, e.At.Off) || !strings.HasPrefix(text[e.At.Off:], e.Name+" ") {
				t.Errorf("%+v stands at %v", e, e.At)
			}
			seen[e.At.Off] = true
			look(e.Params)
		}
	}
	for i, item := range s.Items {
		if item.At != x.Objects[i].At {
			t.Errorf("%+v stands at %v", item, item.At)
		}
		look(item.Entries)
	}
	if left != 6+1+1 {
		t.Error(left, "entries are filled in")
	}
}

// P5.2: each attribute of each row left out, standing once, standing twice.
func TestReadOfEachRowLeftOutOnceTwice(t *testing.T) {
	for _, r := range lines {
		x, a := setOf(r, r.right(0))
		once := *a
		if got := entryIn(takes(t, x), r); len(got) != 1 || got[0].At != once.At {
			t.Errorf("%+v once: %+v", r, got)
		}
		follows(t, x)

		list, _ := listOf(&x, r)
		*list = append(*list, once)
		twice := spot(99)
		(*list)[len(*list)-1].At = twice
		if r.any() {
			if got := entryIn(takes(t, x), r); len(got) != 2 || got[0].At != once.At || got[1].At != twice {
				t.Errorf("%+v twice: %+v", r, got)
			}
		} else {
			refuses(t, x, api.ErrRepeated, twice, r.name)
			// A value that is wrong, too, comes behind that.
			(*list)[len(*list)-1].Value.Kind = 0
			refuses(t, x, api.ErrRepeated, twice, r.name)
		}
		follows(t, x)

		list, owner := listOf(&x, r)
		*list = slices.DeleteFunc(*list, func(a api.Attr) bool { return a.Name == r.name })
		switch {
		case r.once():
			refuses(t, x, api.ErrMissing, owner, r.name)
		case r.any():
			if got := entryIn(takes(t, x), r); len(got) != 0 {
				t.Errorf("%+v left out: %+v", r, got)
			}
		default:
			if got := entryIn(takes(t, x), r); len(got) != 1 || !reflect.DeepEqual(filled(got, false), filled([]api.Entry{defaults(r)}, false)) {
				t.Errorf("%+v left out: %+v", r, got)
			}
		}
		follows(t, x)
	}
}

// P5.2: what is filled in, told here once more by hand.
func TestReadOfDefaults(t *testing.T) {
	s := takes(t, sown(holding(object("OS"), object("EVENT"), object("MESSAGE", with("MESSAGEPROPERTY", named("RECEIVE_UNQUEUED_INTERNAL"), is("SENDINGMESSAGE", named("s")))))))
	want := []api.Entry{
		{Name: "STATUS", Word: "EXTENDED"}, {Name: "STARTUPHOOK", Word: "FALSE"}, {Name: "ERRORHOOK", Word: "FALSE"}, {Name: "SHUTDOWNHOOK", Word: "FALSE"}, {Name: "PRETASKHOOK", Word: "FALSE"},
		{Name: "POSTTASKHOOK", Word: "FALSE"}, {Name: "USEGETSERVICEID", Word: "FALSE"}, {Name: "USEPARAMETERACCESS", Word: "FALSE"}, {Name: "USERESSCHEDULER", Word: "TRUE"},
	}
	if !reflect.DeepEqual(filled(s.Items[0].Entries, false), filled(want, false)) {
		t.Errorf("OS: %+v", s.Items[0])
	}
	if !reflect.DeepEqual(filled(s.Items[1].Entries, false), filled([]api.Entry{{Name: "MASK", Auto: true}}, false)) {
		t.Errorf("EVENT: %+v", s.Items[1])
	}
	want = []api.Entry{{Name: "MESSAGEPROPERTY", At: spot(4), Word: "RECEIVE_UNQUEUED_INTERNAL", Params: []api.Entry{{Name: "SENDINGMESSAGE", At: spot(5), Word: "s"}, {Name: "INITIALVALUE"}}}, {Name: "NOTIFICATION", Word: "NONE"}}
	if !reflect.DeepEqual(filled(s.Items[2].Entries, false), filled(want, false)) {
		t.Errorf("MESSAGE: %+v", s.Items[2])
	}
}

// valued holds what a row's attribute with a value is read as against what it must be; code OK: it is taken.
func valued(t *testing.T, r line, v api.Value, code api.Errno, want api.Entry) {
	t.Helper()
	x, a := setOf(r, v)
	follows(t, x)
	if code != api.OK {
		refuses(t, x, code, a.At, r.name)
		return
	}
	want.Name, want.At = r.name, a.At
	got := entryIn(takes(t, x), r)
	for i := range got {
		got[i].Params = nil
	}
	if !reflect.DeepEqual(got, []api.Entry{want}) {
		t.Errorf("%s %v %s = %+v: %+v", r.object, r.under, r.name, v, got)
	}
}

// P5.2: the least and the greatest number of each range, and one beyond each.
func TestReadOfRanges(t *testing.T) {
	n := 0
	for _, r := range lines {
		if !r.numeric() {
			continue
		}
		n++
		lo, hi := r.bounds()
		for _, v := range []uint32{lo, lo + 1, lo + (hi-lo)/2, hi - 1, hi} {
			valued(t, r, number(v), api.OK, api.Entry{Number: v})
			valued(t, r, api.Value{Kind: api.ValueNumber, Number: v, Hex: true}, api.OK, api.Entry{Number: v})
		}
		if lo > 0 {
			valued(t, r, number(lo-1), api.ErrRange, api.Entry{})
			valued(t, r, number(0), api.ErrRange, api.Entry{})
		}
		if hi < api.MaxNumber {
			valued(t, r, number(hi+1), api.ErrRange, api.Entry{})
			valued(t, r, number(api.MaxNumber), api.ErrRange, api.Entry{})
		}
	}
	if n != 12 {
		t.Error(n, "rows of numbers")
	}
}

// P5.2: AUTO where it may stand, and where it may not.
func TestReadOfAuto(t *testing.T) {
	for _, r := range lines {
		switch {
		case r.orAuto():
			valued(t, r, named("AUTO"), api.OK, api.Entry{Auto: true})
			for _, s := range []string{"auto", "AUTO1", "AUT", "", "NONE", "1"} {
				valued(t, r, named(s), api.ErrKind, api.Entry{})
			}
			valued(t, r, said("AUTO"), api.ErrKind, api.Entry{})
		case r.value[0] == "ref":
			valued(t, r, named("AUTO"), api.OK, api.Entry{Word: "AUTO"})
		case r.value[0] == "text" && len(r.words()) == 0:
			valued(t, r, said("AUTO"), api.OK, api.Entry{Word: "AUTO"})
			valued(t, r, named("AUTO"), api.ErrKind, api.Entry{})
		default:
			valued(t, r, named("AUTO"), api.ErrKind, api.Entry{})
			valued(t, r, said("AUTO"), api.ErrKind, api.Entry{})
		}
	}
}

// P5.2: values of all kinds for rows of all kinds, the words and names that are none of them.
func TestReadOfWordsAndKinds(t *testing.T) {
	for _, r := range lines {
		words := r.words()
		wrong := []string{"", "true", "Full", "AUTO", "TRUE_", "TRU", "uint", "uint80", "UINT8", "NONE ", "r"}
		if len(words) > 0 {
			wrong = append(wrong, strings.ToLower(words[0])+"x", words[0]+words[1], words[0]+" ", strings.Join(words, " "))
		}
		for _, kind := range []api.ValueKind{-1, 0, api.ValueName, api.ValueNumber, api.ValueString, 4, 1 << 40} {
			for _, s := range append(wrong, words...) {
				v := api.Value{Kind: kind, Text: s, Number: 0}
				word := slices.Contains(words, s)
				switch {
				case kind == api.ValueName && r.value[0] == "ref":
					valued(t, r, v, api.OK, api.Entry{Word: s})
				case kind == api.ValueName && (r.value[0] == "bool" || r.value[0] == "words") && word:
					valued(t, r, v, api.OK, api.Entry{Word: s})
				case kind == api.ValueString && r.value[0] == "text" && (word || len(words) == 0):
					valued(t, r, v, api.OK, api.Entry{Word: s})
				case kind == api.ValueName && r.orAuto() && s == "AUTO":
					valued(t, r, v, api.OK, api.Entry{Auto: true})
				case kind == api.ValueNumber && r.numeric():
					if lo, _ := r.bounds(); lo == 0 {
						valued(t, r, v, api.OK, api.Entry{})
					} else {
						valued(t, r, v, api.ErrRange, api.Entry{})
					}
				default:
					valued(t, r, v, api.ErrKind, api.Entry{})
				}
			}
		}
	}
}

// P5.2: strings that say words of their own, and strings that say anything.
func TestReadOfTexts(t *testing.T) {
	message := func(v api.Value) api.Tree {
		return sown(holding(object("MESSAGE", with("MESSAGEPROPERTY", named("SEND_STATIC_INTERNAL"), is("CDATATYPE", v)))))
	}
	for _, s := range []string{"uint8", "uint16", "uint32", "uint64"} {
		if e := takes(t, message(said(s))).Items[0].Entries[0].Params[0]; e.Word != s || e.Auto || e.Number != 0 {
			t.Errorf("%+v", e)
		}
		refuses(t, message(named(s)), api.ErrKind, spot(3), "CDATATYPE")
	}
	for _, s := range []string{"", "int8", "uint128", "uint8 ", "uint"} {
		refuses(t, message(said(s)), api.ErrKind, spot(3), "CDATATYPE")
	}
	call := func(v api.Value) api.Tree {
		return sown(holding(object("ALARM", is("COUNTER", named("c")), with("ACTION", named("ALARMCALLBACK"), is("ALARMCALLBACKNAME", v)), is("AUTOSTART", named("FALSE")))))
	}
	for _, s := range append(goodStrings(), badStrings()...) {
		if e := takes(t, call(said(s))).Items[0].Entries[1].Params[0]; e.Word != s {
			t.Errorf("%+v", e)
		}
	}
	refuses(t, call(named("f")), api.ErrKind, spot(4), "ALARMCALLBACKNAME")
	refuses(t, call(number(1)), api.ErrKind, spot(4), "ALARMCALLBACKNAME")
}

// P5.2: braces behind each value of each row: where there may be none, where there must be some, and empty ones.
func TestReadOfBraces(t *testing.T) {
	for _, r := range lines {
		for n := range max(3, len(r.words())) {
			v := r.right(n)
			inner := linesAt(r.object, [2]string{r.name, v.Text})
			must := slices.IndexFunc(inner, line.once)

			x, a := setOf(r, v)
			a.Braced, a.Params = true, nil
			switch {
			case len(inner) == 0:
				refuses(t, x, api.ErrBraces, a.At, r.name)
				a.Params = []api.Attr{is("COLOUR", number(1))}
				refuses(t, x, api.ErrBraces, a.At, r.name)
			case must >= 0:
				refuses(t, x, api.ErrMissing, a.At, inner[must].name)
			default:
				takes(t, x)
			}
			follows(t, x)

			a.Braced, a.Params = false, nil
			if must >= 0 {
				refuses(t, x, api.ErrBraces, a.At, r.name)
			} else {
				takes(t, x)
			}
			follows(t, x)
		}
	}
}

// P5.2: what stands in braces that may not, or not there, or not so often.
func TestReadOfParameters(t *testing.T) {
	places := map[[3]string]bool{}
	for _, r := range lines {
		if r.under[0] == "" || places[[3]string{r.object, r.under[0], r.under[1]}] {
			continue
		}
		places[[3]string{r.object, r.under[0], r.under[1]}] = true
		here := linesAt(r.object, r.under)
		put := func(a api.Attr) (api.Tree, api.Spot) {
			x := sown(leastWith(r))
			list, _ := listOf(&x, r)
			a.At = spot(99)
			*list = append(*list, a)
			return x, a.At
		}
		// Of the attributes of all rows only those of this place may stand there, none of another word's.
		for _, other := range lines {
			if slices.ContainsFunc(here, func(h line) bool { return h.name == other.name }) {
				continue
			}
			x, at := put(is(other.name, other.right(0)))
			refuses(t, x, api.ErrAttr, at, other.name)
			follows(t, x)
		}
		for _, name := range []string{"", "COLOUR", strings.ToLower(r.name)} {
			x, at := put(is(name, r.right(0)))
			refuses(t, x, api.ErrAttr, at, name)
		}
		for _, h := range here {
			x, at := put(is(h.name, h.right(0)))
			if h.once() {
				refuses(t, x, api.ErrRepeated, at, h.name)
			} else {
				takes(t, x)
			}
			// No parameter has parameters of its own.
			x, a := setOf(h, h.right(0))
			a.Braced = true
			refuses(t, x, api.ErrBraces, a.At, h.name)
			a.Params = []api.Attr{is(h.name, h.right(0))}
			refuses(t, x, api.ErrBraces, a.At, h.name)
		}
		// Of two that must stand there the first one is missed first.
		x := sown(leastWith(r))
		list, at := listOf(&x, r)
		slices.Reverse(*list)
		takes(t, x)
		if i := slices.IndexFunc(here, line.once); i >= 0 {
			*list = nil
			refuses(t, x, api.ErrMissing, at, here[i].name)
		}
	}
	if len(places) != 13 {
		t.Error(len(places), "places in braces")
	}
}

// P5.2: a parameter stands once in each object, not once in all.
func TestReadCountsAnewInEachObject(t *testing.T) {
	var all []api.Object
	for _, r := range lines {
		x, _ := setOf(r, r.right(0))
		all = append(all, x.Objects[0], x.Objects[0])
	}
	s := takes(t, sown(holding(all...)))
	if len(s.Items) != 2*len(lines) {
		t.Error(len(s.Items), "items")
	}
	follows(t, sown(holding(all...)))
	// And what stood in one object is missed in the next one.
	for _, r := range lines {
		if !r.once() {
			continue
		}
		x, _ := setOf(r, r.right(0))
		y := sown(holding(x.Objects[0], x.Objects[0]))
		y.Objects = y.Objects[1:]
		list, at := listOf(&y, r)
		*list = slices.DeleteFunc(*list, func(a api.Attr) bool { return a.Name == r.name })
		y.Objects = []api.Object{x.Objects[0], y.Objects[0]}
		refuses(t, y, api.ErrMissing, at, r.name)
	}
}

// P5.2: kinds of objects that are none.
func TestReadOfKindsThatAreNone(t *testing.T) {
	for _, kind := range []string{"", "THING", "task", "TASK ", "TAS", "CPU", "COM", "IPDU", "OIL_VERSION", "TASK\x00"} {
		refuses(t, sown(holding(api.Object{Kind: kind})), api.ErrObject, spot(1), kind)
		// Nothing that stands in it is looked at, and nothing behind it.
		refuses(t, sown(holding(object("OS"), object(kind, is("COLOUR", number(1))), object("THAT"))), api.ErrObject, spot(2), kind)
	}
	for _, kind := range schema.Kinds() {
		if len(linesAt(kind, [2]string{})) == 0 && kind != "APPMODE" {
			t.Error(kind, "has no attributes")
		}
		takes(t, holding(object(kind, least(kind, [2]string{}, [2]string{})...)))
	}
	refuses(t, sown(holding(object("APPMODE", is("STATUS", named("EXTENDED"))))), api.ErrAttr, spot(2), "STATUS")
}

// P5.2: attributes of other kinds of objects.
func TestReadOfAttributesOfOtherKinds(t *testing.T) {
	for _, kind := range schema.Kinds() {
		here := linesAt(kind, [2]string{})
		for _, r := range lines {
			if slices.ContainsFunc(here, func(h line) bool { return h.name == r.name }) {
				continue
			}
			x := sown(holding(object(kind, append(least(kind, [2]string{}, [2]string{}), is(r.name, r.right(0)))...)))
			l := x.Objects[0].Attrs
			refuses(t, x, api.ErrAttr, l[len(l)-1].At, r.name)
		}
	}
}

// P5.2: several things wrong with one attribute: the first in the order that is told, and behind each mending the next one.
func TestReadTellsTheFirstOfOneAttribute(t *testing.T) {
	alarm := func(l ...api.Attr) api.Tree { return sown(holding(object("ALARM", l...))) }
	x := alarm(is("ACTION", named("NONE")))
	x.Objects[0].Attrs[0].Name = "ACTIONS"
	x.Objects[0].Attrs[0].Braced = true
	refuses(t, x, api.ErrAttr, spot(2), "ACTIONS")

	ahead := with("ACTION", named("SETEVENT"), is("TASK", named("t")), is("EVENT", named("e")))
	refuses(t, alarm(ahead, is("ACTION", number(1))), api.ErrRepeated, spot(5), "ACTION")
	refuses(t, alarm(with("ACTION", number(1), is("X", number(1)))), api.ErrKind, spot(2), "ACTION")
	refuses(t, alarm(with("ACTION", named("OTHER"), is("X", number(1)))), api.ErrKind, spot(2), "ACTION")
	refuses(t, sown(holding(object("TASK", with("PRIORITY", number(64), is("X", number(1)))))), api.ErrRange, spot(2), "PRIORITY")
	refuses(t, sown(holding(object("TASK", with("PRIORITY", number(63), is("X", number(1)))))), api.ErrBraces, spot(2), "PRIORITY")
	refuses(t, sown(holding(object("EVENT", with("MASK", named("AUTO"))))), api.ErrBraces, spot(2), "MASK")
	// What stands in braces comes ahead of what is missing there, that ahead of the attributes behind, those ahead of what is missing in the object.
	refuses(t, alarm(with("ACTION", named("SETEVENT"), is("EVENT", number(1))), is("X", number(1))), api.ErrKind, spot(3), "EVENT")
	refuses(t, alarm(with("ACTION", named("SETEVENT"), is("EVENT", named("e"))), is("X", number(1))), api.ErrMissing, spot(2), "TASK")
	refuses(t, alarm(ahead, is("X", number(1))), api.ErrAttr, spot(5), "X")
	refuses(t, alarm(ahead), api.ErrMissing, spot(1), "COUNTER")
	refuses(t, alarm(ahead, is("COUNTER", named("c"))), api.ErrMissing, spot(1), "AUTOSTART")
	takes(t, alarm(ahead, is("COUNTER", named("c")), is("AUTOSTART", named("FALSE"))))
}

// P5.2: of faults at two places the first one in the order of going through is told, whichever they are.
func TestReadTellsTheFirstOfTwo(t *testing.T) {
	type fault struct {
		object api.Object
		code   api.Errno
		spots  int // how far behind the object's spot
		name   string
	}
	task := func(l ...api.Attr) api.Object {
		return object("TASK", append([]api.Attr{is("PRIORITY", number(1)), is("SCHEDULE", named("FULL")), is("ACTIVATION", number(1)), is("AUTOSTART", named("FALSE"))}, l...)...)
	}
	faults := []fault{
		{object("THING"), api.ErrObject, 0, "THING"},
		{task(is("COLOUR", number(1))), api.ErrAttr, 5, "COLOUR"},
		{task(is("PRIORITY", number(1))), api.ErrRepeated, 5, "PRIORITY"},
		{task(is("EVENT", number(1))), api.ErrKind, 5, "EVENT"},
		{object("TASK", is("PRIORITY", number(64))), api.ErrRange, 1, "PRIORITY"},
		{task(with("EVENT", named("e"))), api.ErrBraces, 5, "EVENT"},
		{object("TASK", is("PRIORITY", number(1)), is("AUTOSTART", named("TRUE")), is("ACTIVATION", number(1))), api.ErrMissing, 0, "SCHEDULE"},
		{object("ALARM", with("ACTION", named("SETEVENT"), is("EVENT", named("e")))), api.ErrMissing, 1, "TASK"},
		{object("ALARM", with("AUTOSTART", named("TRUE"), is("ALARMTIME", number(1<<31)))), api.ErrRange, 2, "ALARMTIME"},
	}
	for _, p := range faults {
		for _, q := range faults {
			x := sown(holding(task(), p.object, q.object))
			at := spot(x.Objects[1].At.Off + p.spots)
			refuses(t, x, p.code, at, p.name)
			follows(t, x)
		}
	}
	// And within one object, each of two attributes being wrong.
	wrong := []struct {
		attr api.Attr
		code api.Errno
	}{
		{is("COLOUR", number(1)), api.ErrAttr}, {is("RESOURCE", said("r")), api.ErrKind}, {is("ACTIVATION", number(1)), api.ErrRepeated},
		{with("MESSAGE", named("m")), api.ErrBraces}, {with("PRIORITY", number(99)), api.ErrRepeated},
	}
	for _, p := range wrong {
		for _, q := range wrong {
			refuses(t, sown(holding(task(p.attr, q.attr))), p.code, spot(6), p.attr.Name)
		}
	}
}

// P5.2: trees by chance, whole and spoilt, held against the second reading of the chapter.
func TestReadAsTheChapterSays(t *testing.T) {
	codes := map[api.Errno]int{}
	for seed := range 8000 {
		m := maker{chance(seed)}
		x := m.tree()
		if code := follows(t, x); code != api.OK {
			t.Fatalf("%s: %d", short(x), code)
		}
		for range 1 + m.below(4) {
			m.spoil(&x)
			x = sown(x)
			codes[follows(t, x)]++
		}
	}
	for _, code := range []api.Errno{api.OK, api.ErrObject, api.ErrAttr, api.ErrKind, api.ErrRange, api.ErrMissing, api.ErrRepeated, api.ErrBraces} {
		if codes[code] < 100 {
			t.Error(codes[code], "trees with the code", code)
		}
	}
}

// P5.2: trees that no text has are read by what is told of them, too.
func TestReadOfTreesThatNoTextHas(t *testing.T) {
	if s := takes(t, api.Tree{}); !same(s, api.Sheet{}) {
		t.Error(s)
	}
	if s := takes(t, api.Tree{Version: "\n", CPU: "no name", Objects: []api.Object{{Kind: "APPMODE", Name: "\xff", Note: "\x00", At: api.Spot{Off: -1}}}, Note: "\n"}); !same(s, api.Sheet{CPU: "no name", Items: []api.Item{{Kind: "APPMODE", Name: "\xff", At: api.Spot{Off: -1}}}}) {
		t.Error(s)
	}
	refuses(t, holding(api.Object{}), api.ErrObject, api.Spot{}, "")
	refuses(t, holding(object("OS", api.Attr{})), api.ErrAttr, api.Spot{}, "")
	refuses(t, holding(object("OS", is("STATUS", api.Value{}))), api.ErrKind, api.Spot{}, "STATUS")

	// Parameters without braces are not there.
	hidden := is("AUTOSTART", named("FALSE"))
	hidden.Params = []api.Attr{is("COLOUR", number(1))}
	task := []api.Attr{is("PRIORITY", number(1)), is("SCHEDULE", named("FULL")), is("ACTIVATION", number(1)), hidden}
	if e := takes(t, holding(object("TASK", task...))).Items[0].Entries[3]; e.Word != "FALSE" || len(e.Params) != 0 {
		t.Errorf("%+v", e)
	}
	task[3].Value.Text = "TRUE"
	if e := takes(t, holding(object("TASK", task...))).Items[0].Entries[3]; e.Word != "TRUE" || len(e.Params) != 0 {
		t.Errorf("%+v", e)
	}
	bare := is("ACTION", named("ACTIVATETASK"))
	bare.Params = []api.Attr{is("TASK", named("t"))}
	refuses(t, sown(holding(object("ALARM", bare))), api.ErrBraces, spot(2), "ACTION")

	// Fields that a value of its kind does not have are not looked at, and not kept.
	for _, r := range lines {
		v := r.right(0)
		full := api.Value{Kind: v.Kind, Text: v.Text, Number: v.Number, Hex: true}
		want := api.Entry{Number: v.Number, Word: v.Text}
		if v.Kind == api.ValueNumber {
			full.Text = "AUTO"
		} else {
			full.Number = 77
		}
		valued(t, r, full, api.OK, want)
	}
	// Names that are no names are read as they are.
	for _, s := range badNames() {
		valued(t, lines[14], named(s), api.OK, api.Entry{Word: s})
	}
}

// R1: a tree whose braces are deep, or that holds itself.
func TestReadOfDeepTrees(t *testing.T) {
	loop := []api.Attr{with("AUTOSTART", named("TRUE"))}
	loop[0].Params = loop
	refuses(t, holding(object("TASK", loop...)), api.ErrAttr, api.Spot{}, "AUTOSTART")
	deep := with("APPMODE", named("TRUE"))
	for range 1 << 16 {
		deep = with("APPMODE", named("TRUE"), deep)
	}
	refuses(t, holding(object("TASK", with("AUTOSTART", named("TRUE"), deep))), api.ErrBraces, api.Spot{}, "APPMODE")
}

// P5.2: many attributes of one name, in their order.
func TestReadOfManyAttributes(t *testing.T) {
	l := least("TASK", [2]string{}, [2]string{})
	var modes []api.Attr
	for i := range 20000 {
		l = append(l, is([]string{"EVENT", "RESOURCE"}[i%2], named(string(rune('a'+i%26)))))
		modes = append(modes, is("APPMODE", named(string(rune('a'+i%23)))))
	}
	l[3] = with("AUTOSTART", named("TRUE"), modes...)
	follows(t, sown(holding(object("TASK", l...), object("TASK", l...))))
}

// R3: a sheet is new memory, and the tree is left as it is.
func TestReadKeepsAndChangesNothing(t *testing.T) {
	x, _ := inText(t, everyKind)
	y, _ := inText(t, everyKind)
	s, u := takes(t, x), takes(t, x)
	turn(reflect.ValueOf(&s).Elem())
	if !reflect.DeepEqual(x, y) {
		t.Error("the tree was changed")
	}
	if !same(u, takes(t, y)) {
		t.Error("two sheets share memory")
	}
	turn(reflect.ValueOf(&x).Elem())
	if !same(u, takes(t, y)) {
		t.Error("a sheet shares memory with its tree")
	}
	// Lists that have room behind their end are not written there.
	for i := range u.Items {
		_ = append(u.Items[i].Entries, api.Entry{Name: "more"})
		for j := range u.Items[i].Entries {
			_ = append(u.Items[i].Entries[j].Params, api.Entry{Name: "more"})
		}
	}
	if !same(u, takes(t, y)) {
		t.Error("lists of one sheet share memory")
	}
}

// turn makes another value of each field, however deep.
func turn(v reflect.Value) {
	switch v.Kind() {
	case reflect.Struct:
		for i := range v.NumField() {
			turn(v.Field(i))
		}
	case reflect.Slice:
		for i := range v.Len() {
			turn(v.Index(i))
		}
	case reflect.String:
		v.SetString(v.String() + "x")
	case reflect.Bool:
		v.SetBool(!v.Bool())
	case reflect.Uint32:
		v.SetUint(v.Uint() + 1)
	default:
		v.SetInt(v.Int() + 1)
	}
}
