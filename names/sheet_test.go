package names_test

import (
	"reflect"
	"slices"
	"strconv"
	"strings"
	"testing"

	"tappet/api"
	"tappet/names"
	"tappet/printer"
	"tappet/schema"
	"tappet/tree"
)

// P6.4: the sheet of every kind of thing, told by hand.
func TestSheetOfEveryKind(t *testing.T) {
	const want = `OIL_VERSION = "2.5";
CPU c {
  OS o {
    STATUS = EXTENDED;
    STARTUPHOOK = TRUE;
    ERRORHOOK = FALSE;
    SHUTDOWNHOOK = TRUE;
    PRETASKHOOK = FALSE;
    POSTTASKHOOK = TRUE;
    USEGETSERVICEID = FALSE;
    USEPARAMETERACCESS = TRUE;
    USERESSCHEDULER = FALSE;
  };
  APPMODE m { };
  APPMODE k { };
  TASK T {
    PRIORITY = 63;
    SCHEDULE = NON;
    ACTIVATION = 10;
    AUTOSTART = TRUE {
      APPMODE = m;
      APPMODE = k;
    };
    RESOURCE = R;
    RESOURCE = Q;
    EVENT = E;
    EVENT = F;
    MESSAGE = U;
    MESSAGE = S;
    MESSAGE = V;
  };
  TASK U {
    PRIORITY = 0;
    SCHEDULE = FULL;
    ACTIVATION = 255;
    AUTOSTART = FALSE;
  };
  ISR I {
    CATEGORY = 1;
    PRIORITY = 127;
  };
  ISR J {
    CATEGORY = 2;
    PRIORITY = 64;
    RESOURCE = R;
    RESOURCE = P;
    MESSAGE = U;
    MESSAGE = S;
  };
  RESOURCE R {
    RESOURCEPROPERTY = STANDARD;
  };
  RESOURCE Q {
    RESOURCEPROPERTY = LINKED {
      LINKEDRESOURCE = P;
    };
  };
  RESOURCE P {
    RESOURCEPROPERTY = INTERNAL;
  };
  EVENT E {
    MASK = 6;
  };
  EVENT F {
    MASK = AUTO;
  };
  COUNTER C {
    MAXALLOWEDVALUE = 1;
    TICKSPERBASE = 2;
    MINCYCLE = 3;
  };
  COUNTER D {
    MAXALLOWEDVALUE = 2147483647;
    TICKSPERBASE = 20;
    MINCYCLE = 30;
  };
  ALARM A {
    COUNTER = D;
    ACTION = SETEVENT {
      TASK = U;
      EVENT = F;
    };
    AUTOSTART = TRUE {
      ALARMTIME = 5;
      CYCLETIME = 7;
      APPMODE = m;
      APPMODE = k;
    };
  };
  ALARM B {
    COUNTER = C;
    ACTION = ALARMCALLBACK {
      ALARMCALLBACKNAME = "call \"it\"";
    };
    AUTOSTART = FALSE;
  };
  ALARM G {
    COUNTER = C;
    ACTION = ACTIVATETASK {
      TASK = U;
    };
    AUTOSTART = FALSE;
  };
  MESSAGE U {
    MESSAGEPROPERTY = RECEIVE_UNQUEUED_INTERNAL {
      SENDINGMESSAGE = S;
      INITIALVALUE = 4294967295;
    };
    NOTIFICATION = FLAG {
      FLAGNAME = "f g";
    };
  };
  MESSAGE S {
    MESSAGEPROPERTY = SEND_STATIC_INTERNAL {
      CDATATYPE = "uint16";
    };
    NOTIFICATION = NONE;
  };
  MESSAGE V {
    MESSAGEPROPERTY = RECEIVE_QUEUED_INTERNAL {
      SENDINGMESSAGE = W;
      QUEUESIZE = 16;
    };
    NOTIFICATION = SETEVENT {
      TASK = T;
      EVENT = F;
    };
  };
  MESSAGE W {
    MESSAGEPROPERTY = SEND_STATIC_INTERNAL {
      CDATATYPE = "uint64";
    };
    NOTIFICATION = COMCALLBACK {
      COMCALLBACKNAME = "d";
    };
  };
  MESSAGE X {
    MESSAGEPROPERTY = RECEIVE_UNQUEUED_INTERNAL {
      SENDINGMESSAGE = W;
      INITIALVALUE = 0;
    };
    NOTIFICATION = ACTIVATETASK {
      TASK = U;
    };
  };
};
`
	s := writes(t, everyConfig())
	x, e := schema.Write(s)
	text, flaw := printer.Print(x)
	if e != api.OK || flaw.Code != api.OK || text != want {
		t.Errorf("%d %v:\n%s", e, flaw, text)
	}
	if !same(s, spotless(s)) {
		t.Error("spots are written")
	}
	if !writtenAsTold(t, "every kind", everyConfig()) {
		t.Error("the second reading has no sheet of it")
	}
}

// P6.4: little configurations; the zero one has no sheet.
func TestSheetOfSmallConfigurations(t *testing.T) {
	writesNot(t, "the zero one", api.Config{})
	writesNot(t, "without an OS", api.Config{CPU: "c"})
	writesNot(t, "without a CPU", api.Config{OS: api.Os{Name: "o"}})
	small := api.Config{CPU: "c", OS: api.Os{Name: "o"}}
	if s := writes(t, small); len(s.Items) != 1 || len(s.Items[0].Entries) != 9 {
		t.Errorf("%+v", s)
	}
	writtenAsTold(t, "an OS alone", small)
	empty := api.Config{CPU: "c", OS: api.Os{Name: "o"}, Modes: []string{}, Resources: []api.Resource{}, Events: []api.Event{}, Counters: []api.Counter{}, Alarms: []api.Alarm{},
		Isrs: []api.Isr{{Name: "i", Category: 1, Priority: 64, Resources: []int{}, Messages: []int{}}}, Messages: []api.Message{},
		Tasks: []api.Task{{Name: "t", Activation: 1, Auto: []int{}, Resources: []int{}, Events: []int{}, Messages: []int{}}}}
	if !writtenAsTold(t, "empty lists", empty) || !same(resolves(t, writes(t, empty)), empty) {
		t.Error("empty lists are not as nil")
	}
}

// P6.4, P6.5: what the chapter's first example resolves to, and a mask that AUTO would not give.
func TestSheetOfTheExample(t *testing.T) {
	c := resolved(t, exampleHead+"EVENT = B; EVENT = A; }; EVENT A { }; EVENT B { MASK = 1; };")
	if got := resolves(t, writes(t, c)); !same(got, c) {
		t.Errorf("%+v", got)
	}
	for _, mask := range []uint32{0, 1, 3, 4, 6, 1 << 31} {
		d := plain(c)
		d.Events[0].Mask = mask
		writesNot(t, "a mask of AUTO", d)
	}
	d := plain(c)
	d.Events[0].Auto = false
	if s := writes(t, d); !same(s.Items[3].Entries, []api.Entry{{Name: "MASK", Number: 2}}) {
		t.Errorf("%+v", s.Items[3])
	}
	d.Events[1].Auto = true
	writtenAsTold(t, "the other one with AUTO", d)
	d.Events[0].Mask = 1<<32 - 1
	writesNot(t, "AUTO without a bit that is left", d)
}

// P6.4: names that are none, and names twice, in each kind.
func TestSheetOfNames(t *testing.T) {
	set := map[string]func(c *api.Config, name string){
		"CPU":      func(c *api.Config, name string) { c.CPU = name },
		"OS":       func(c *api.Config, name string) { c.OS.Name = name },
		"APPMODE":  func(c *api.Config, name string) { c.Modes[1] = name },
		"TASK":     func(c *api.Config, name string) { c.Tasks[1].Name = name },
		"ISR":      func(c *api.Config, name string) { c.Isrs[1].Name = name },
		"RESOURCE": func(c *api.Config, name string) { c.Resources[1].Name = name },
		"EVENT":    func(c *api.Config, name string) { c.Events[1].Name = name },
		"COUNTER":  func(c *api.Config, name string) { c.Counters[1].Name = name },
		"ALARM":    func(c *api.Config, name string) { c.Alarms[1].Name = name },
		"MESSAGE":  func(c *api.Config, name string) { c.Messages[1].Name = name },
	}
	for kind, put := range set {
		for _, name := range badNames() {
			c := everyConfig()
			put(&c, name)
			writesNot(t, kind+" without a name", c)
		}
		for _, name := range goodNames() {
			c := everyConfig()
			put(&c, name)
			if !writtenAsTold(t, kind+" with another name", c) {
				t.Error(kind, name)
			}
		}
		if first, e := names.Name(everyConfig(), kind, 0); e == api.OK {
			c := everyConfig()
			put(&c, first)
			writesNot(t, kind+" of one name", c)
		}
	}
}

// P6.4: texts that no string says.
func TestSheetOfTexts(t *testing.T) {
	for _, put := range []func(c *api.Config, s string){
		func(c *api.Config, s string) { c.Alarms[1].Action.Name = s },
		func(c *api.Config, s string) { c.Messages[0].Action.Name = s },
		func(c *api.Config, s string) { c.Messages[3].Action.Name = s },
	} {
		for _, s := range badStrings() {
			c := everyConfig()
			put(&c, s)
			writesNot(t, "a text", c)
		}
		for _, s := range goodStrings() {
			c := everyConfig()
			put(&c, s)
			if !writtenAsTold(t, "a text", c) || !same(resolves(t, writes(t, c)), c) {
				t.Errorf("%q", s)
			}
		}
	}
}

// P6.4: each number, list, text and bool of a configuration turned to something else, has it a sheet then or not.
func TestSheetOfEachFieldTurned(t *testing.T) {
	base := everyConfig()
	n := len(places(reflect.ValueOf(&base).Elem()))
	taken, refused := 0, 0
	hold := func(i int, turn func(v reflect.Value) bool) {
		c := everyConfig()
		if !turn(places(reflect.ValueOf(&c).Elem())[i]) {
			return
		}
		if writtenAsTold(t, "field "+strconv.Itoa(i), c) {
			taken++
			if !same(resolves(t, writes(t, c)), c) {
				t.Error("not back:", short(c))
			}
		} else {
			refused++
		}
	}
	numbers := []int64{-1 << 63, -1 << 32, -2, -1, 0, 1, 2, 3, 4, 5, 7, 8, 9, 15, 16, 17, 62, 63, 64, 65, 126, 127, 128, 254, 255, 256, 1<<31 - 1, 1 << 31, 1<<32 - 1, 1 << 32, 1<<32 + 1, 1<<63 - 1}
	for i := range n {
		for _, x := range numbers {
			hold(i, func(v reflect.Value) bool {
				if v.CanInt() {
					v.SetInt(x)
				} else if v.CanUint() {
					v.SetUint(uint64(x))
				}
				return v.CanInt() || v.CanUint()
			})
		}
		hold(i, func(v reflect.Value) bool {
			if v.Kind() == reflect.Bool {
				v.SetBool(!v.Bool())
			}
			return v.Kind() == reflect.Bool
		})
		for _, l := range [][]int{nil, {}, {0}, {1}, {0, 1}, {1, 0}, {0, 0}, {1, 1}, {0, 1, 1}, {0, 2}, {2, 0, 1}, {-1}, {0, 3}, {5}, {0, 1 << 32}} {
			hold(i, func(v reflect.Value) bool {
				if v.Kind() == reflect.Slice {
					v.Set(reflect.ValueOf(l))
				}
				return v.Kind() == reflect.Slice
			})
		}
		for _, s := range []string{"", "x", "T", "a b", "\n"} {
			hold(i, func(v reflect.Value) bool {
				if v.Kind() == reflect.String {
					v.SetString(s)
				}
				return v.Kind() == reflect.String
			})
		}
	}
	if taken < 200 || refused < 1500 {
		t.Error(taken, "taken,", refused, "refused")
	}
}

// P6.4: what an action or a message of a kind has not is zero.
func TestSheetOfFieldsThatAThingHasNot(t *testing.T) {
	taken, refused := 0, 0
	hold := func(what string, c api.Config) {
		t.Helper()
		if writtenAsTold(t, what, c) {
			taken++
		} else {
			refused++
		}
	}
	for kind := api.ActionKind(-1); kind <= 5; kind++ {
		for _, task := range []int{-1, 0, 1, 2} {
			for _, event := range []int{-1, 0, 1, 2} {
				for _, name := range []string{"", "f"} {
					a := api.Action{Kind: kind, Task: task, Event: event, Name: name}
					c, d := everyConfig(), everyConfig()
					c.Alarms[1].Action, d.Messages[2].Action = a, a
					hold("an alarm's action", c)
					hold("a message's action", d)
				}
			}
		}
	}
	for kind := api.MessageKind(-1); kind <= 4; kind++ {
		for _, length := range []int{0, 1, 3, 8, 16} {
			for _, from := range []int{-1, 0, 1, 3, 4, 5} {
				for _, init := range []uint64{0, 1, 1<<32 - 1, 1 << 32} {
					for _, queue := range []int{0, 1, 16, 17} {
						c := everyConfig()
						c.Messages[4] = api.Message{Name: "X", Kind: kind, Length: length, From: from, Init: init, Queue: queue}
						hold("a message", c)
					}
				}
			}
		}
	}
	for kind := api.ResourceKind(-1); kind <= 4; kind++ {
		for _, link := range []int{-1, 0, 1, 2, 3} {
			c := everyConfig()
			c.Resources[2].Kind, c.Resources[2].Link = kind, link
			hold("a resource", c)
		}
	}
	for _, auto := range [][]int{nil, {0}, {0, 1}} {
		for _, time := range []uint32{0, 1, 1<<31 - 1, 1 << 31} {
			for _, cycle := range []uint32{0, 1, 1<<31 - 1, 1 << 31} {
				c := everyConfig()
				c.Alarms[0].Auto, c.Alarms[0].Time, c.Alarms[0].Cycle = auto, time, cycle
				hold("an alarm", c)
			}
		}
	}
	if taken != 55 || refused < 2500 {
		t.Error(taken, "taken,", refused, "refused")
	}
}

// P6.4, P6.5: configurations made by chance come back; spoilt ones have a sheet where the second reading says so.
func TestSheetAsTheChapterSays(t *testing.T) {
	m := maker{5}
	taken, refused := 0, 0
	for range 2000 {
		c := m.config()
		for range m.below(3) {
			m.spoil(&c)
		}
		if !writtenAsTold(t, "by chance", c) {
			refused++
		} else if taken++; !same(resolves(t, writes(t, c)), c) {
			t.Error("not back:", short(c))
		}
		if t.Failed() {
			return
		}
	}
	if taken < 700 || refused < 700 {
		t.Error(taken, "taken,", refused, "refused")
	}
}

// P6.5: a sheet that resolves, resolved and written, resolves to the same; what Sheet gives is written again as itself.
func TestThereAndBack(t *testing.T) {
	m := maker{13}
	for range 500 {
		s := sown(asWritten(t, m.config()))
		m.loosen(&s)
		s = m.mixed(s)
		m.spoilSheet(&s)
		c, f := names.Resolve(s)
		if f.Code != api.OK {
			continue
		}
		back := writes(t, c)
		again := resolves(t, back)
		if !same(again, c) || !same(writes(t, again), back) {
			t.Fatal("not back:", short(s))
		}
	}
}

// W2: a configuration, printed as a text and read again, is itself.
func TestThereAndBackThroughTexts(t *testing.T) {
	m := maker{23}
	all := []api.Config{everyConfig()}
	for range 300 {
		all = append(all, m.config())
	}
	for _, c := range all {
		x, e := schema.Write(writes(t, c))
		text, flaw := printer.Print(x)
		y, f := tree.Parse(text)
		s, g := schema.Read(y)
		if e != api.OK || flaw.Code != api.OK || f.Code != api.OK || g.Code != api.OK {
			t.Fatal(e, flaw, f, g, short(c))
		}
		if got := resolves(t, s); !same(got, c) {
			t.Fatalf("%s, not %s", short(got), short(c))
		}
	}
}

// R1: long configurations, and such with numbers of nothing, end.
func TestSheetOfLongConfigurations(t *testing.T) {
	const n = 3000
	c := api.Config{CPU: "c", OS: api.Os{Name: "o"}, Tasks: []api.Task{{Name: "T", Activation: 1}}}
	for i := range n {
		c.Resources = append(c.Resources, api.Resource{Name: "n" + strconv.Itoa(i), Kind: api.ResLinked, Link: n - 1 - i})
		c.Tasks[0].Resources = append(c.Tasks[0].Resources, i)
	}
	if got := resolves(t, writes(t, c)); !same(got, c) {
		t.Error(len(got.Resources))
	}
	c.Tasks[0].Resources = append(c.Tasks[0].Resources, n)
	writesNot(t, "one too many", c)
	c.CPU = strings.Repeat("c", 1<<20)
	writesNot(t, "a long name", c)
}

// R3: Sheet answers new memory, and changes nothing of what it is handed.
func TestSheetKeepsAndChangesNothing(t *testing.T) {
	m := maker{17}
	for range 200 {
		c := m.config()
		kept := plain(c)
		a, b := writes(t, c), writes(t, c)
		if !same(c, kept) || !same(a, b) {
			t.Fatal("changed:", short(kept))
		}
		apart(t, c, a, b)
		m.spoil(&c)
		kept = plain(c)
		names.Sheet(c)
		if !same(c, kept) {
			t.Fatal("changed:", short(kept))
		}
	}
	c := everyConfig()
	for i := range c.Tasks { // lists with room behind them
		c.Tasks[i].Auto = slices.Grow(c.Tasks[i].Auto, 9)
	}
	apart(t, c, writes(t, c))
}
