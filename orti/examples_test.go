package orti_test

import (
	"strings"
	"testing"

	"tappet/api"
	"tappet/orti"
)

// The chapter's first example.
func TestFirstExample(t *testing.T) {
	o, e := orti.Facts(small())
	if e != api.OK {
		t.Fatal(e)
	}
	s, e := orti.Write(o)
	want := "TASK t {\n  PRIORITY = \"$priority[0]\";\n  STATE = \"$state[0]\";\n  ACTIVATIONS = \"$active[0]\";\n  KIND = \"BASIC\";\n};\n"
	if e != api.OK || !strings.HasSuffix(s, "};\n"+want) || s != head("o", `"NO_TASK" = 4294967295, "t" = 0`)+want {
		t.Errorf("%d %q", e, s)
	}
}

// The chapter's second example.
func TestSecondExample(t *testing.T) {
	o, e := orti.Facts(small())
	if e != api.OK {
		t.Fatal(e)
	}
	l := api.Look{Tasks: []api.TaskLook{{State: api.Suspended}}}
	value(t, o, "$state[0]", l, "3")
	noValue(t, o, "$state[1]", l)
	noValue(t, o, "$state[00]", l)
	value(t, o, "$running", l, "4294967295")
	value(t, o, "-1", l, "-1")
	value(t, o, "17", l, "17")
	noValue(t, o, "$locker[0]", l)
}

// The chapter's third example.
func TestThirdExample(t *testing.T) {
	writesNothing(t, "ACTIVATETASK", api.Orti{OS: "o", Alarms: []api.OrtiAlarm{{Name: "a", Counter: "c", Action: "ACTIVATETASK"}}})
	readsNothing(t, "empty", "")
}
