package names_test

import (
	"slices"
	"strconv"
	"strings"
	"testing"

	"tappet/api"
	"tappet/names"
	"tappet/schema"
)

// task is the text of a task with some refs.
func task(name, refs string) string {
	return "TASK " + name + " { PRIORITY = 1; SCHEDULE = FULL; ACTIVATION = 1; AUTOSTART = FALSE; " + refs + " };"
}

const exampleHead = "OS o { }; APPMODE m { }; TASK T { PRIORITY = 1; SCHEDULE = FULL; ACTIVATION = 1; AUTOSTART = TRUE { APPMODE = m; }; "

// P6.1, P6.3: the chapter's examples.
func TestResolveOfTheExamples(t *testing.T) {
	c := resolved(t, exampleHead+"EVENT = B; EVENT = A; }; EVENT A { }; EVENT B { MASK = 1; };")
	want := api.Config{
		CPU:    "c",
		OS:     api.Os{Name: "o", Schedule: true},
		Modes:  []string{"m"},
		Tasks:  []api.Task{{Name: "T", Priority: 1, Full: true, Activation: 1, Auto: []int{0}, Events: []int{0, 1}}},
		Events: []api.Event{{Name: "A", Mask: 2, Auto: true}, {Name: "B", Mask: 1}},
	}
	if !same(c, want) {
		t.Errorf("%+v", c)
	}
	textRefused(t, exampleHead+"EVENT = B; EVENT = A; @EVENT = D; }; EVENT A { }; EVENT B { MASK = 1; };", api.ErrUnknown, "D")
	textRefused(t, exampleHead+"EVENT = B; EVENT = A; @EVENT = B; }; EVENT A { }; EVENT B { MASK = 1; };", api.ErrAgain, "B")
	textRefused(t, exampleHead+"EVENT = B; EVENT = A; }; EVENT A { }; EVENT B { MASK = 1; }; @EVENT A { };", api.ErrDouble, "A")
}

const everyKind = `
MESSAGE U { MESSAGEPROPERTY = RECEIVE_UNQUEUED_INTERNAL { SENDINGMESSAGE = S; INITIALVALUE = 4294967295; }; NOTIFICATION = FLAG { FLAGNAME = "f g"; }; };
ALARM A { COUNTER = D; ACTION = SETEVENT { TASK = U; EVENT = F; }; AUTOSTART = TRUE { ALARMTIME = 5; CYCLETIME = 7; APPMODE = k; APPMODE = m; }; };
ALARM B { COUNTER = C; ACTION = ALARMCALLBACK { ALARMCALLBACKNAME = "call \"it\""; }; AUTOSTART = FALSE; };
ALARM G { COUNTER = C; ACTION = ACTIVATETASK { TASK = U; }; AUTOSTART = TRUE { ALARMTIME = 5; CYCLETIME = 7; }; };
COUNTER C { MAXALLOWEDVALUE = 1; TICKSPERBASE = 2; MINCYCLE = 3; };
COUNTER D { MAXALLOWEDVALUE = 2147483647; TICKSPERBASE = 20; MINCYCLE = 30; };
EVENT E { MASK = 6; };
EVENT F { };
TASK T { PRIORITY = 63; SCHEDULE = NON; ACTIVATION = 10; AUTOSTART = TRUE { APPMODE = k; APPMODE = m; }; RESOURCE = Q; RESOURCE = R; EVENT = F; EVENT = E; MESSAGE = V; MESSAGE = S; MESSAGE = U; };
TASK U { PRIORITY = 0; SCHEDULE = FULL; ACTIVATION = 255; AUTOSTART = TRUE; };
ISR I { CATEGORY = 1; PRIORITY = 127; };
OS o { STARTUPHOOK = TRUE; SHUTDOWNHOOK = TRUE; POSTTASKHOOK = TRUE; USEPARAMETERACCESS = TRUE; USERESSCHEDULER = FALSE; };
ISR J { CATEGORY = 2; PRIORITY = 64; MESSAGE = U; MESSAGE = S; RESOURCE = P; RESOURCE = R; };
RESOURCE R { RESOURCEPROPERTY = STANDARD; };
RESOURCE Q { RESOURCEPROPERTY = LINKED { LINKEDRESOURCE = P; }; };
RESOURCE P { RESOURCEPROPERTY = INTERNAL; };
APPMODE m { };
APPMODE k { };
MESSAGE S { MESSAGEPROPERTY = SEND_STATIC_INTERNAL { CDATATYPE = "uint16"; }; };
MESSAGE V { MESSAGEPROPERTY = RECEIVE_QUEUED_INTERNAL { SENDINGMESSAGE = W; QUEUESIZE = 16; }; NOTIFICATION = SETEVENT { TASK = T; EVENT = F; }; };
MESSAGE W { MESSAGEPROPERTY = SEND_STATIC_INTERNAL { CDATATYPE = "uint64"; }; NOTIFICATION = COMCALLBACK { COMCALLBACKNAME = "d"; }; };
MESSAGE X { MESSAGEPROPERTY = RECEIVE_UNQUEUED_INTERNAL { SENDINGMESSAGE = W; }; NOTIFICATION = ACTIVATETASK { TASK = U; }; };
`

func everyConfig() api.Config {
	return api.Config{
		CPU:   "c",
		OS:    api.Os{Name: "o", Startup: true, Shutdown: true, PostTask: true, Params: true},
		Modes: []string{"m", "k"},
		Tasks: []api.Task{
			{Name: "T", Priority: 63, Activation: 10, Auto: []int{0, 1}, Resources: []int{0, 1}, Events: []int{0, 1}, Messages: []int{0, 1, 2}},
			{Name: "U", Full: true, Activation: 255},
		},
		Resources: []api.Resource{{Name: "R", Kind: api.ResStandard}, {Name: "Q", Kind: api.ResLinked, Link: 2}, {Name: "P", Kind: api.ResInternal}},
		Events:    []api.Event{{Name: "E", Mask: 6}, {Name: "F", Mask: 1, Auto: true}},
		Counters:  []api.Counter{{Name: "C", Max: 1, Base: 2, Min: 3}, {Name: "D", Max: 2147483647, Base: 20, Min: 30}},
		Alarms: []api.Alarm{
			{Name: "A", Counter: 1, Action: api.Action{Kind: api.ActEvent, Task: 1, Event: 1}, Auto: []int{0, 1}, Time: 5, Cycle: 7},
			{Name: "B", Action: api.Action{Kind: api.ActCallback, Name: `call "it"`}},
			{Name: "G", Action: api.Action{Kind: api.ActTask, Task: 1}},
		},
		Isrs: []api.Isr{{Name: "I", Category: 1, Priority: 127}, {Name: "J", Category: 2, Priority: 64, Resources: []int{0, 2}, Messages: []int{0, 1}}},
		Messages: []api.Message{
			{Name: "U", Kind: api.MsgUnqueued, From: 1, Init: 4294967295, Action: api.Action{Kind: api.ActFlag, Name: "f g"}},
			{Name: "S", Kind: api.MsgSend, Length: 2},
			{Name: "V", Kind: api.MsgQueued, From: 3, Queue: 16, Action: api.Action{Kind: api.ActEvent, Event: 1}},
			{Name: "W", Kind: api.MsgSend, Length: 8, Action: api.Action{Kind: api.ActCallback, Name: "d"}},
			{Name: "X", Kind: api.MsgUnqueued, From: 3, Action: api.Action{Kind: api.ActTask, Task: 1}},
		},
	}
}

// P6.1: a sheet with every kind of item, told by hand; a time of an alarm that no mode starts is not kept.
func TestResolveOfEveryKind(t *testing.T) {
	if c := resolved(t, everyKind); !same(c, everyConfig()) {
		t.Errorf("%+v", c)
	}
	s, _ := inText(t, everyKind)
	follows(t, s)
}

// P6.1: the hooks and flags of the OS, one by one; STATUS is not kept.
func TestResolveOfTheOs(t *testing.T) {
	for name, want := range map[string]api.Os{
		"STARTUPHOOK":        {Startup: true},
		"ERRORHOOK":          {Error: true},
		"SHUTDOWNHOOK":       {Shutdown: true},
		"PRETASKHOOK":        {PreTask: true},
		"POSTTASKHOOK":       {PostTask: true},
		"USEGETSERVICEID":    {Service: true},
		"USEPARAMETERACCESS": {Params: true},
		"USERESSCHEDULER":    {Schedule: true},
	} {
		text := "STATUS = EXTENDED; " + name + " = TRUE;"
		if name != "USERESSCHEDULER" {
			text += " USERESSCHEDULER = FALSE;"
		}
		want.Name = "os1"
		if c := resolved(t, "OS os1 { "+text+" };"); !same(c, api.Config{CPU: "c", OS: want}) {
			t.Errorf("%s: %+v", name, c)
		}
	}
	if c := resolved(t, "OS o { };"); !same(c, api.Config{CPU: "c", OS: api.Os{Name: "o", Schedule: true}}) {
		t.Errorf("%+v", c)
	}
}

// P6.1: the lengths of messages, and the kinds of resources.
func TestResolveOfWords(t *testing.T) {
	for n, word := range map[int]string{1: "uint8", 2: "uint16", 4: "uint32", 8: "uint64"} {
		c := resolved(t, `OS o { }; MESSAGE S { MESSAGEPROPERTY = SEND_STATIC_INTERNAL { CDATATYPE = "`+word+`"; }; };`)
		if !slices.Equal(c.Messages, []api.Message{{Name: "S", Kind: api.MsgSend, Length: n}}) {
			t.Errorf("%s: %+v", word, c.Messages)
		}
	}
	for word, kind := range map[string]api.ResourceKind{"STANDARD": api.ResStandard, "INTERNAL": api.ResInternal, "LINKED { LINKEDRESOURCE = R; }": api.ResLinked} {
		c := resolved(t, `OS o { }; RESOURCE R { RESOURCEPROPERTY = `+word+`; };`)
		if !slices.Equal(c.Resources, []api.Resource{{Name: "R", Kind: kind}}) {
			t.Errorf("%s: %+v", word, c.Resources)
		}
	}
}

// P6.1, 1: a sheet that schema.Write refuses is told without a spot and a name, ahead of all else that is wrong.
func TestResolveOfSheetsThatCannotBe(t *testing.T) {
	none := api.Fault{Code: api.ErrArg}
	refuses(t, api.Sheet{}, none)
	for i, spoil := range []func(s *api.Sheet){
		func(s *api.Sheet) { s.CPU = "" },
		func(s *api.Sheet) { s.CPU = "1" },
		func(s *api.Sheet) { s.Items[0].Name = "a b" },
		func(s *api.Sheet) { s.Items[0].Kind = "THING" },
		func(s *api.Sheet) { s.Items[0].Entries = nil },
		func(s *api.Sheet) { s.Items[0].Entries[0].Auto = true },
		func(s *api.Sheet) { s.Items[1].Entries[3].Params = append(s.Items[1].Entries[3].Params, api.Entry{}) },
		func(s *api.Sheet) { s.Items[1].Entries[0].Number = 64 },
		func(s *api.Sheet) { s.Items[1].Entries[4].Word = "" },
		func(s *api.Sheet) { s.Items[1].Entries[4].Name = "RESOURCES" },
		func(s *api.Sheet) { s.Items[len(s.Items)-1].Entries = append(s.Items[0].Entries, api.Entry{}) },
	} {
		for _, text := range []string{
			"OS o { }; " + task("T", "RESOURCE = R;") + " RESOURCE R { RESOURCEPROPERTY = STANDARD; };",
			"OS o { STATUS = STANDARD; }; " + task("T", "RESOURCE = R; RESOURCE = R;") + " RESOURCE Q { RESOURCEPROPERTY = STANDARD; }; OS o { };",
		} {
			s, _ := inText(t, text)
			spoil(&s)
			if _, e := schema.Write(s); e != api.ErrArg {
				t.Fatal(i, "is written")
			}
			refuses(t, s, none)
		}
	}
}

// P6.1, 2: just one OS; ErrOs has no spot and no name.
func TestResolveOfNoOsAndOfTwo(t *testing.T) {
	for _, text := range []string{
		"", "APPMODE m { };", task("T", "EVENT = E;"), "EVENT o { }; EVENT o { };",
		"OS o { }; OS p { };", "OS o { }; OS o { };", "OS o { }; OS p { }; OS q { };",
		"OS o { STATUS = STANDARD; }; OS p { };", "OS o { }; EVENT E { }; EVENT E { }; OS p { };",
	} {
		textRefused(t, text, api.ErrOs, "")
	}
	resolved(t, "EVENT OS { }; OS OS { }; TASK T { PRIORITY = 1; SCHEDULE = FULL; ACTIVATION = 1; AUTOSTART = FALSE; };")
}

// one is the text of an item of a kind that needs nothing else.
func one(kind, name string) string {
	if kind == "ALARM" {
		return "ALARM " + name + " { COUNTER = c1; ACTION = ALARMCALLBACK { ALARMCALLBACKNAME = \"f\"; }; AUTOSTART = FALSE; };"
	}
	return kind + " " + name + " { " + map[string]string{
		"TASK":     "PRIORITY = 1; SCHEDULE = FULL; ACTIVATION = 1; AUTOSTART = FALSE;",
		"ISR":      "CATEGORY = 2; PRIORITY = 64;",
		"RESOURCE": "RESOURCEPROPERTY = STANDARD;",
		"COUNTER":  "MAXALLOWEDVALUE = 1; TICKSPERBASE = 1; MINCYCLE = 1;",
		"MESSAGE":  `MESSAGEPROPERTY = SEND_STATIC_INTERNAL { CDATATYPE = "uint8"; };`,
	}[kind] + " };"
}

func eightKinds() []string {
	return []string{"APPMODE", "TASK", "ISR", "RESOURCE", "EVENT", "COUNTER", "ALARM", "MESSAGE"}
}

// P6.1, 3 and P6.2: a name twice in one kind, at the second item; one name in two kinds is none.
func TestResolveOfDoubles(t *testing.T) {
	head := "OS o { }; " + one("COUNTER", "c1") + " "
	for _, kind := range eightKinds() {
		textRefused(t, head+one(kind, "x")+" @"+one(kind, "x"), api.ErrDouble, "x")
		textRefused(t, head+one(kind, "x")+one(kind, "y")+one(kind, "z")+" @"+one(kind, "y")+one(kind, "x"), api.ErrDouble, "y")
		textRefused(t, head+one(kind, "x")+" @"+one(kind, "x")+one(kind, "x"), api.ErrDouble, "x")
		for _, other := range eightKinds() {
			if other != kind {
				c := resolved(t, head+one(kind, "x")+one(other, "x")+one(kind, "o")+one(kind, "X"))
				if names.Find(c, kind, "x") != names.Find(c, kind, "o")-1 || names.Find(c, other, "x") < 0 {
					t.Errorf("%s and %s of one name: %+v", kind, other, c)
				}
			}
		}
	}
}

// P6.2: refs of two kinds to one name mean two things.
func TestOneNameInEveryKind(t *testing.T) {
	text := "OS x { }; "
	for _, kind := range []string{"APPMODE", "ISR", "RESOURCE", "EVENT", "COUNTER", "MESSAGE"} {
		text += one(kind, "a") + one(kind, "x")
	}
	text += "TASK x { PRIORITY = 1; SCHEDULE = FULL; ACTIVATION = 1; AUTOSTART = TRUE { APPMODE = x; }; RESOURCE = x; EVENT = x; MESSAGE = a; };"
	text += "ALARM x { COUNTER = x; ACTION = SETEVENT { TASK = x; EVENT = a; }; AUTOSTART = TRUE { ALARMTIME = 1; CYCLETIME = 0; APPMODE = a; }; };"
	text += "MESSAGE b { MESSAGEPROPERTY = RECEIVE_QUEUED_INTERNAL { SENDINGMESSAGE = x; QUEUESIZE = 1; }; };"
	text += "RESOURCE b { RESOURCEPROPERTY = LINKED { LINKEDRESOURCE = x; }; };"
	c := resolved(t, text)
	if x := c.Tasks[0]; !same(x, api.Task{Name: "x", Priority: 1, Full: true, Activation: 1, Auto: []int{1}, Resources: []int{1}, Events: []int{1}, Messages: []int{0}}) {
		t.Errorf("%+v", x)
	}
	if x := c.Alarms[0]; !same(x, api.Alarm{Name: "x", Counter: 1, Action: api.Action{Kind: api.ActEvent}, Auto: []int{0}, Time: 1}) {
		t.Errorf("%+v", x)
	}
	if c.Messages[2].From != 1 || c.Resources[2].Link != 1 {
		t.Errorf("%+v %+v", c.Messages, c.Resources)
	}
}

// P6.1, 4: the standard status, wherever the OS stands.
func TestResolveOfTheStandardStatus(t *testing.T) {
	textRefused(t, "OS o { ERRORHOOK = TRUE; @STATUS = STANDARD; };", api.ErrStandard, "STANDARD")
	textRefused(t, task("STATUS", "")+one("RESOURCE", "STANDARD")+" OS o { @STATUS = STANDARD; };", api.ErrStandard, "STANDARD")
	resolved(t, "OS STANDARD { STATUS = EXTENDED; }; "+one("RESOURCE", "STATUS")+task("STANDARD", "RESOURCE = STATUS;"))
}

// refRow is a ref in the text of an item that refers besides to x alone.
type refRow struct {
	kind string // what it means
	text string // of the item, with @ ahead of the ref, and ? as its name
}

func refRows() []refRow {
	auto := "TASK i { PRIORITY = 1; SCHEDULE = FULL; ACTIVATION = 1; AUTOSTART = TRUE { @APPMODE = ?; }; };"
	isr := "ISR i { CATEGORY = 2; PRIORITY = 64; "
	alarm := "ALARM i { COUNTER = x; ACTION = "
	received := "MESSAGE i { MESSAGEPROPERTY = RECEIVE_"
	sent := `MESSAGE i { MESSAGEPROPERTY = SEND_STATIC_INTERNAL { CDATATYPE = "uint8"; }; NOTIFICATION = `
	return []refRow{
		{"APPMODE", auto},
		{"RESOURCE", task("i", "@RESOURCE = ?;")},
		{"EVENT", task("i", "@EVENT = ?;")},
		{"MESSAGE", task("i", "@MESSAGE = ?;")},
		{"RESOURCE", isr + "@RESOURCE = ?; };"},
		{"MESSAGE", isr + "@MESSAGE = ?; };"},
		{"RESOURCE", "RESOURCE i { RESOURCEPROPERTY = LINKED { @LINKEDRESOURCE = ?; }; };"},
		{"COUNTER", "ALARM i { @COUNTER = ?; ACTION = ALARMCALLBACK { ALARMCALLBACKNAME = \"y\"; }; AUTOSTART = FALSE; };"},
		{"TASK", alarm + "ACTIVATETASK { @TASK = ?; }; AUTOSTART = FALSE; };"},
		{"TASK", alarm + "SETEVENT { @TASK = ?; EVENT = x; }; AUTOSTART = FALSE; };"},
		{"APPMODE", alarm + "SETEVENT { EVENT = x; TASK = x; }; AUTOSTART = TRUE { @APPMODE = ?; ALARMTIME = 1; CYCLETIME = 0; }; };"},
		{"EVENT", alarm + "SETEVENT { @EVENT = ?; TASK = x; }; AUTOSTART = FALSE; };"},
		{"MESSAGE", received + "UNQUEUED_INTERNAL { @SENDINGMESSAGE = ?; }; };"},
		{"MESSAGE", received + "QUEUED_INTERNAL { @SENDINGMESSAGE = ?; QUEUESIZE = 1; }; };"},
		{"TASK", sent + "ACTIVATETASK { @TASK = ?; }; };"},
		{"TASK", sent + "SETEVENT { @TASK = ?; EVENT = x; }; };"},
		{"EVENT", sent + "SETEVENT { TASK = x; @EVENT = ?; }; };"},
	}
}

// P6.1, 4: each ref to nothing, and to a name that only things of other kinds have; refs in parameters among them.
func TestResolveOfEachRef(t *testing.T) {
	head := "OS y { }; "
	for _, kind := range eightKinds() {
		head += strings.ReplaceAll(one(kind, "x"), "c1", "x")
	}
	for _, r := range refRows() {
		others := ""
		for _, kind := range eightKinds() {
			if kind != r.kind {
				others += strings.ReplaceAll(one(kind, "y"), "c1", "x")
			}
		}
		at := func(name string) string { return strings.ReplaceAll(r.text, "?", name) }
		textRefused(t, head+at("y"), api.ErrUnknown, "y")
		textRefused(t, head+others+at("y"), api.ErrUnknown, "y")
		textRefused(t, head+at("y")+others, api.ErrUnknown, "y")
		textRefused(t, head+others+at("X"), api.ErrUnknown, "X")
		for _, text := range []string{head + at("x"), at("x") + head, others + head + at("x")} {
			s, _ := inText(t, strings.ReplaceAll(text, "@", ""))
			if follows(t, s) != api.OK {
				t.Error("not resolved:", text)
			}
		}
		// A thing of the right name behind the ref is found, too.
		s, _ := inText(t, strings.ReplaceAll(head+at("y")+strings.ReplaceAll(one(r.kind, "y"), "c1", "x"), "@", ""))
		if follows(t, s) != api.OK {
			t.Error("not found behind it:", r.text)
		}
	}
}

// P6.1: which attributes are refs is what the schema's table says.
func TestRefsAreThoseOfTheTable(t *testing.T) {
	for _, row := range schema.Rows() {
		if (row.Want == api.WantRef) != (kindOfRef(row.Name) != "") {
			t.Error(row.Name)
		}
	}
}

// P6.1, 4: SENDINGMESSAGE means a MESSAGE that is sent.
func TestResolveOfSendingMessages(t *testing.T) {
	sent := one("MESSAGE", "s")
	queued := "MESSAGE q { MESSAGEPROPERTY = RECEIVE_QUEUED_INTERNAL { @SENDINGMESSAGE = ?; QUEUESIZE = 1; }; };"
	unqueued := "MESSAGE u { MESSAGEPROPERTY = RECEIVE_UNQUEUED_INTERNAL { @SENDINGMESSAGE = ?; }; };"
	named := func(text, name string) string { return strings.Replace(text, "?", name, 1) }
	quiet := func(text string) string { return strings.Replace(named(text, "s"), "@", "", 1) }
	for _, x := range []struct{ text, name string }{
		{sent + named(queued, "q"), "q"},
		{sent + named(unqueued, "u"), "u"},
		{sent + named(queued, "u") + quiet(unqueued), "u"},
		{sent + quiet(unqueued) + named(queued, "u"), "u"},
		{quiet(queued) + sent + named(unqueued, "q"), "q"},
		{sent + quiet(queued) + named(unqueued, "t"), "t"},
	} {
		textRefused(t, "OS o { };"+x.text, api.ErrUnknown, x.name)
	}
	c := resolved(t, "OS o { };"+quiet(queued)+one("MESSAGE", "a")+quiet(unqueued)+sent)
	if c.Messages[0].From != 3 || c.Messages[2].From != 3 {
		t.Errorf("%+v", c.Messages)
	}
	// A task and an ISR may have any message.
	c = resolved(t, "OS o { };"+quiet(queued)+sent+task("T", "MESSAGE = q; MESSAGE = s;"))
	if !slices.Equal(c.Tasks[0].Messages, []int{0, 1}) {
		t.Errorf("%+v", c.Tasks)
	}
}

// P6.1, 4: a ref twice in the same braces; once in each of two is no fault.
func TestResolveOfRefsTwice(t *testing.T) {
	head := "OS o { };"
	for _, kind := range eightKinds() {
		for _, name := range []string{"a", "b", "c"} {
			head += strings.ReplaceAll(one(kind, name), "c1", "a")
		}
	}
	auto := func(list string) string {
		return "TASK i { PRIORITY = 1; SCHEDULE = FULL; ACTIVATION = 1; AUTOSTART = TRUE { " + list + " }; };"
	}
	start := func(list string) string {
		return "ALARM i { COUNTER = a; ACTION = ACTIVATETASK { TASK = a; }; AUTOSTART = TRUE { ALARMTIME = 1; CYCLETIME = 0; " + list + " }; };"
	}
	direct := func(list string) string { return task("i", list) }
	isr := func(list string) string { return "ISR i { CATEGORY = 2; PRIORITY = 64; " + list + " };" }
	for _, x := range []struct {
		name string
		put  func(list string) string
	}{
		{"APPMODE", auto}, {"APPMODE", start}, {"RESOURCE", direct}, {"EVENT", direct}, {"MESSAGE", direct}, {"RESOURCE", isr}, {"MESSAGE", isr},
	} {
		list := func(s string) string {
			out := ""
			for _, word := range strings.Fields(s) {
				out += strings.Replace(strings.ReplaceAll(x.name+" = "+word+"; ", "@", ""), x.name, map[bool]string{true: "@", false: ""}[word[0] == '@']+x.name, 1)
			}
			return out
		}
		textRefused(t, head+x.put(list("a @a")), api.ErrAgain, "a")
		textRefused(t, head+x.put(list("a b @a")), api.ErrAgain, "a")
		textRefused(t, head+x.put(list("a b c @b a")), api.ErrAgain, "b")
		textRefused(t, head+x.put(list("c @c c")), api.ErrAgain, "c")
		textRefused(t, head+x.put(list("a b @d a")), api.ErrUnknown, "d")
		resolved(t, head+x.put(list("c a b"))+strings.Replace(x.put(list("b a c")), " i ", " j ", 1))
	}
	// The same name by two attributes, and outside and inside of braces.
	resolved(t, head+"TASK i { PRIORITY = 1; SCHEDULE = FULL; ACTIVATION = 1; AUTOSTART = TRUE { APPMODE = a; }; RESOURCE = a; EVENT = a; MESSAGE = a; };")
	resolved(t, head+"ALARM i { COUNTER = a; ACTION = SETEVENT { TASK = a; EVENT = a; }; AUTOSTART = TRUE { ALARMTIME = 1; CYCLETIME = 0; APPMODE = a; }; };")
}

// P6.1: lists of numbers rise, whatever the order of the refs.
func TestListsOfNumbersRise(t *testing.T) {
	var head, modes, resources, events, messages string
	order := []int{7, 0, 3, 5, 1, 6, 2, 4}
	for i := range 8 {
		n := strconv.Itoa(i)
		head += one("APPMODE", "n"+n) + one("RESOURCE", "n"+n) + one("EVENT", "n"+n) + one("MESSAGE", "n"+n)
		to := " = n" + strconv.Itoa(order[i]) + "; "
		modes += "APPMODE" + to
		resources += "RESOURCE" + to
		events += "EVENT" + to
		messages += "MESSAGE" + to
	}
	c := resolved(t, "OS o { };"+one("COUNTER", "c")+head+
		"TASK T { PRIORITY = 1; SCHEDULE = FULL; ACTIVATION = 1; AUTOSTART = TRUE { "+modes+" }; "+messages+events+resources+"};"+
		"ISR I { CATEGORY = 2; PRIORITY = 64; "+messages+resources+"};"+
		"ALARM A { COUNTER = c; ACTION = ACTIVATETASK { TASK = T; }; AUTOSTART = TRUE { "+modes+" CYCLETIME = 3; ALARMTIME = 2; }; };")
	want := []int{0, 1, 2, 3, 4, 5, 6, 7}
	for i, l := range [][]int{c.Tasks[0].Auto, c.Tasks[0].Resources, c.Tasks[0].Events, c.Tasks[0].Messages, c.Isrs[0].Resources, c.Isrs[0].Messages, c.Alarms[0].Auto} {
		if !slices.Equal(l, want) {
			t.Error(i, l)
		}
	}
	if c.Alarms[0].Time != 2 || c.Alarms[0].Cycle != 3 {
		t.Errorf("%+v", c.Alarms[0])
	}
}

// P6.1: AUTOSTART TRUE without a mode is as FALSE.
func TestAutostartWithoutModes(t *testing.T) {
	head := "OS o { }; APPMODE m { };" + one("COUNTER", "c")
	taskWith := func(auto string) string {
		return head + "TASK T { PRIORITY = 1; SCHEDULE = FULL; ACTIVATION = 1; AUTOSTART = " + auto + "; };"
	}
	for _, auto := range []string{"FALSE", "TRUE", "TRUE { }"} {
		if c := resolved(t, taskWith(auto)); len(c.Tasks[0].Auto) != 0 {
			t.Error(auto, c.Tasks)
		}
	}
	alarmWith := func(auto string) string {
		return head + `ALARM A { COUNTER = c; ACTION = ALARMCALLBACK { ALARMCALLBACKNAME = ""; }; AUTOSTART = ` + auto + "; };"
	}
	for _, auto := range []string{"FALSE", "TRUE { ALARMTIME = 3; CYCLETIME = 4; }"} {
		if c := resolved(t, alarmWith(auto)); !same(c.Alarms[0], api.Alarm{Name: "A", Action: api.Action{Kind: api.ActCallback}}) {
			t.Error(auto, c.Alarms)
		}
	}
	if c := resolved(t, alarmWith("TRUE { ALARMTIME = 3; CYCLETIME = 4; APPMODE = m; }")); !same(c.Alarms[0], api.Alarm{Name: "A", Action: api.Action{Kind: api.ActCallback}, Auto: []int{0}, Time: 3, Cycle: 4}) {
		t.Error(c.Alarms)
	}
}

// P6.1: of two faults the first one in the promise's order is told, with its spot and its name.
func TestResolveTellsTheFirstOfTwo(t *testing.T) {
	double := func(mark string) string { return "EVENT E { }; " + mark + "EVENT E { };" }
	unknown := func(mark string) string { return task("U", mark+"RESOURCE = R;") }
	again := func(mark string) string { return one("MESSAGE", "M") + task("V", "MESSAGE = M; "+mark+"MESSAGE = M;") }
	standard := func(mark string) string { return "OS o { " + mark + "STATUS = STANDARD; };" }
	full := func(mark string) string {
		return task("W", "EVENT = F; EVENT = G;") + mark + "EVENT F { }; EVENT G { MASK = 0xFFFFFFFF; };"
	}
	os := "OS o { };"
	for _, x := range []struct {
		text string
		code api.Errno
		name string
	}{
		{double("") + "OS o { }; OS p { };", api.ErrOs, ""},
		{unknown("") + again("") + full(""), api.ErrOs, ""},
		{standard("") + "OS p { };", api.ErrOs, ""},
		{standard("") + unknown("") + again("") + full("") + double("@"), api.ErrDouble, "E"},
		{os + double("@") + one("TASK", "E") + one("TASK", "E"), api.ErrDouble, "E"},
		{standard("@") + unknown(""), api.ErrStandard, "STANDARD"},
		{unknown("@") + standard(""), api.ErrUnknown, "R"},
		{again("@") + standard("") + unknown(""), api.ErrAgain, "M"},
		{unknown("@") + again("") + os, api.ErrUnknown, "R"},
		{os + again("@") + unknown(""), api.ErrAgain, "M"},
		{os + full("") + unknown("@"), api.ErrUnknown, "R"},
		{os + full("") + again("@"), api.ErrAgain, "M"},
		{full("") + standard("@"), api.ErrStandard, "STANDARD"},
		{os + full("@"), api.ErrMask, "F"},
		// Of one item the entries stand in the order of the sheet, not of the text.
		{os + task("T", "MESSAGE = x; EVENT = y; @RESOURCE = z;"), api.ErrUnknown, "z"},
		// What stands in an entry's braces comes behind it, and ahead of the next one.
		{os + "TASK T { PRIORITY = 1; SCHEDULE = FULL; ACTIVATION = 1; RESOURCE = x; AUTOSTART = TRUE { @APPMODE = y; }; };", api.ErrUnknown, "y"},
		{os + "ALARM A { ACTION = ACTIVATETASK { TASK = x; }; @COUNTER = y; AUTOSTART = FALSE; };", api.ErrUnknown, "y"},
		{os + one("COUNTER", "y") + "ALARM A { ACTION = SETEVENT { EVENT = z; @TASK = x; }; COUNTER = y; AUTOSTART = TRUE { ALARMTIME = 1; CYCLETIME = 1; APPMODE = m; }; };", api.ErrUnknown, "x"},
		{os + "MESSAGE M { NOTIFICATION = ACTIVATETASK { TASK = x; }; MESSAGEPROPERTY = RECEIVE_UNQUEUED_INTERNAL { @SENDINGMESSAGE = M; }; };", api.ErrUnknown, "M"},
	} {
		textRefused(t, x.text, x.code, x.name)
	}
}

// P6.1, P6.3: sheets made by chance, right and spoilt, resolve as the second reading of the chapter says.
func TestResolveAsTheChapterSays(t *testing.T) {
	m := maker{7}
	count := map[api.Errno]int{}
	for range 2500 {
		c := m.config()
		s := sown(asWritten(t, c))
		m.loosen(&s)
		s = m.mixed(s)
		for range m.below(4) {
			m.spoilSheet(&s)
		}
		count[follows(t, s)]++
		if t.Failed() {
			return
		}
	}
	for _, code := range []api.Errno{api.OK, api.ErrArg, api.ErrOs, api.ErrDouble, api.ErrUnknown, api.ErrAgain, api.ErrMask, api.ErrStandard} {
		if count[code] < 20 {
			t.Error("too few of", code, count)
		}
	}
}

// P6.5: the order of items of unlike kinds, spots, and the order of refs change nothing.
func TestOrderOfUnlikeKinds(t *testing.T) {
	m := maker{11}
	for range 300 {
		c := m.config()
		s := asWritten(t, c)
		for range 3 {
			other := m.mixed(sown(s))
			if got := resolves(t, other); !same(got, c) {
				t.Fatalf("%s, not %s", short(got), short(c))
			}
		}
		m.loosen(&s)
		if got := resolves(t, s); !same(got, c) {
			t.Fatalf("loosened: %s, not %s", short(got), short(c))
		}
	}
	// The order of items of one kind counts.
	s, _ := inText(t, "OS o { }; EVENT A { }; EVENT B { };")
	s.Items[1], s.Items[2] = s.Items[2], s.Items[1]
	if c := resolves(t, s); c.Events[0].Name != "B" || c.Events[1].Name != "A" {
		t.Error(c.Events)
	}
}

// R1: entries that hold themselves, and long sheets, end.
func TestResolveOfDeepAndLongSheets(t *testing.T) {
	s, _ := inText(t, "OS o { }; "+one("TASK", "T"))
	loop := make([]api.Entry, 1)
	loop[0] = api.Entry{Name: "APPMODE", Word: "m", Params: loop}
	s.Items[1].Entries[3] = api.Entry{Name: "AUTOSTART", Word: "TRUE", Params: loop}
	if _, f := names.Resolve(s); f != (api.Fault{Code: api.ErrArg}) {
		t.Error(f)
	}
	const n = 20000
	long := api.Sheet{CPU: "c", Items: []api.Item{s.Items[0]}}
	first := api.Item{Kind: "TASK", Name: "T", Entries: slices.Clone(s.Items[1].Entries)}
	first.Entries[3] = api.Entry{Name: "AUTOSTART", Word: "FALSE"}
	for i := range n {
		name := "n" + strconv.Itoa(i)
		long.Items = append(long.Items, api.Item{Kind: "RESOURCE", Name: name, Entries: []api.Entry{{Name: "RESOURCEPROPERTY", Word: "STANDARD"}}})
		first.Entries = append(first.Entries, api.Entry{Name: "RESOURCE", Word: "n" + strconv.Itoa(n-1-i)})
	}
	long.Items = append(long.Items, first)
	c := resolves(t, long)
	if len(c.Resources) != n || len(c.Tasks) != 1 || len(c.Tasks[0].Resources) != n || c.Tasks[0].Resources[n-1] != n-1 {
		t.Error(len(c.Resources), len(c.Tasks))
	}
}

// R3: Resolve answers new memory, and changes nothing of what it is handed.
func TestResolveKeepsAndChangesNothing(t *testing.T) {
	m := maker{3}
	for range 200 {
		s := m.mixed(sown(asWritten(t, m.config())))
		m.loosen(&s)
		kept := plain(s)
		c, d := resolves(t, s), resolves(t, s)
		if !same(s, kept) || !same(c, d) {
			t.Fatal("changed:", short(kept))
		}
		apart(t, s, c, d)
	}
	if a, b := resolved(t, everyKind), resolved(t, "OS o { };"); !same(a, everyConfig()) || !same(b, api.Config{CPU: "c", OS: api.Os{Name: "o", Schedule: true}}) {
		t.Error("kept")
	}
}
