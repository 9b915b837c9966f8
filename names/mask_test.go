package names_test

import (
	"slices"
	"strconv"
	"strings"
	"testing"

	"tappet/api"
)

// masked are the masks of events (a number, or a dot for AUTO) of which tasks have those told (by their places, from 0 on).
func masked(t *testing.T, events string, tasks ...string) []uint32 {
	t.Helper()
	var masks []uint32
	for _, e := range resolved(t, maskText(events, -1, tasks...)).Events {
		masks = append(masks, e.Mask)
	}
	return masks
}

// maskText is the text of such events, with a mark at one of them.
func maskText(events string, mark int, tasks ...string) string {
	text := "OS o { }; "
	for i, list := range tasks {
		refs := ""
		for _, id := range strings.Fields(list) {
			refs += "EVENT = E" + id + "; "
		}
		text += task("T"+strconv.Itoa(i), refs)
	}
	for i, mask := range strings.Fields(events) {
		if i == mark {
			text += "@"
		}
		text += "EVENT E" + strconv.Itoa(i) + " { "
		if mask != "." {
			text += "MASK = " + mask + "; "
		}
		text += "}; "
	}
	return text
}

// P6.3: masks given by number; AUTO with the least bit free, ahead of and behind numbers; events that share no task.
func TestMasks(t *testing.T) {
	for _, x := range []struct {
		events string
		tasks  []string
		want   []uint32
	}{
		{"7 4294967295 1", nil, []uint32{7, 4294967295, 1}},
		{"7 7 1", []string{"0 1 2"}, []uint32{7, 7, 1}}, // numbers are not held against each other here
		{". . .", nil, []uint32{1, 1, 1}},
		{". . .", []string{"0", "1", "2"}, []uint32{1, 1, 1}},
		{". . .", []string{"0 1 2"}, []uint32{1, 2, 4}},
		{". . .", []string{"2 1 0"}, []uint32{1, 2, 4}},
		{". . .", []string{"0 2"}, []uint32{1, 1, 2}},
		{". . .", []string{"1 2"}, []uint32{1, 1, 2}},
		{". . .", []string{"0 1", "1 2"}, []uint32{1, 2, 1}},
		{". . . .", []string{"0 1", "1 2", "0 2", "3 1"}, []uint32{1, 2, 4, 1}},
		{". 1", []string{"0 1"}, []uint32{2, 1}},
		{"1 .", []string{"0 1"}, []uint32{1, 2}},
		{". 1 .", []string{"0 1 2"}, []uint32{2, 1, 4}},
		{". 2 .", []string{"0 1 2"}, []uint32{1, 2, 4}},
		{". 5 .", []string{"0 1 2"}, []uint32{2, 5, 8}},
		{". . 5 10", []string{"0 1 2 3"}, []uint32{16, 32, 5, 10}},
		{". 1", nil, []uint32{1, 1}},
		{". 1", []string{"0", "1"}, []uint32{1, 1}},
		{". 1 2", []string{"0 1", "0 2"}, []uint32{4, 1, 2}},
		{"1 2 . 4", []string{"2 0", "2 1", "1 3"}, []uint32{1, 2, 4, 4}},
		{"1 . .", []string{"0 1", "1 2"}, []uint32{1, 2, 1}},
		{"0x7FFFFFFF .", []string{"0 1"}, []uint32{0x7fffffff, 1 << 31}},
		{". 0xFFFFFFFE", []string{"0 1"}, []uint32{1, 0xfffffffe}},
		{". 0xFFFFFFFF", []string{"0", "1"}, []uint32{1, 0xffffffff}},
		{"0xFFFFFFFF .", nil, []uint32{0xffffffff, 1}},
		{"0x0000FFFF . 0x7FFF0000", []string{"0 1 2"}, []uint32{0xffff, 1 << 31, 0x7fff0000}},
		{"0xFFFFFFFD . .", []string{"0 1", "0 2"}, []uint32{0xfffffffd, 2, 2}},
	} {
		if got := masked(t, x.events, x.tasks...); !slices.Equal(got, x.want) {
			t.Errorf("%s in %q: %v, not %v", x.events, x.tasks, got, x.want)
		}
	}
	for i, e := range resolved(t, maskText("1 . 4 .", -1)).Events {
		if e.Auto != (i%2 == 1) {
			t.Error(i, e)
		}
	}
}

// P6.3: it is tasks' lists in which events stand together: neither an alarm's nor a message's action counts.
func TestMasksByTasksAlone(t *testing.T) {
	c := resolved(t, maskText(". . 1", -1, "0")+one("COUNTER", "C")+
		"ALARM A { COUNTER = C; ACTION = SETEVENT { TASK = T0; EVENT = E1; }; AUTOSTART = FALSE; };"+
		`MESSAGE M { MESSAGEPROPERTY = SEND_STATIC_INTERNAL { CDATATYPE = "uint8"; }; NOTIFICATION = SETEVENT { TASK = T0; EVENT = E2; }; };`)
	if c.Events[0].Mask != 1 || c.Events[1].Mask != 1 {
		t.Error(c.Events)
	}
}

func auto(n int) string { return strings.TrimSpace(strings.Repeat(". ", n)) }

func upTo(n int) string {
	var l []string
	for i := range n {
		l = append(l, strconv.Itoa(i))
	}
	return strings.Join(l, " ")
}

// P6.3, P6.1, 5: all 32 bits are given; for one more there is none left.
func TestAllBitsOfMasks(t *testing.T) {
	for i, mask := range masked(t, auto(32), upTo(32)) {
		if mask != 1<<i {
			t.Error(i, mask)
		}
	}
	textRefused(t, maskText(auto(33), 32, upTo(33)), api.ErrMask, "E32")
	textRefused(t, maskText(auto(35), 32, upTo(35)), api.ErrMask, "E32")
	// One that stands with all of them in two tasks.
	half := "0 1 2 3 4 5 6 7 8 9 10 11 12 13 14 15"
	more := "16 17 18 19 20 21 22 23 24 25 26 27 28 29 30 31"
	got := masked(t, auto(33), half+" 32", more+" 32")
	if got[15] != 1<<15 || got[31] != 1<<15 || got[32] != 1<<16 {
		t.Error(got)
	}
	textRefused(t, maskText(auto(33), 32, upTo(32), half+" 32", more+" 32"), api.ErrMask, "E32")
}

// P6.1, 5: the first event for which no bit is left, with its spot and name.
func TestNoBitIsLeft(t *testing.T) {
	for _, x := range []struct {
		events string
		at     int
		tasks  []string
	}{
		{". 0xFFFFFFFF", 0, []string{"0 1"}},
		{"0xFFFFFFFF .", 1, []string{"1 0"}},
		{"0xFFFFFFFF . .", 2, []string{"0 2"}},
		{"0xFFFFFFFF . .", 1, []string{"0 2", "1 0"}},
		{". . 0xFFFFFFFF .", 1, []string{"3 2", "1 2"}},
		{"0xFFFF0000 . 0xFFFF", 1, []string{"0 1", "1 2"}},
		{"0xFFFFFFFE . .", 2, []string{"0 1 2"}},
		{". . 0xFFFFFFFE", 1, []string{"0 1 2"}},
		{"0xFFFFFFFF 0xFFFFFFFF . .", 3, []string{"0 1", "3 1"}},
	} {
		textRefused(t, maskText(x.events, x.at, x.tasks...), api.ErrMask, "E"+strconv.Itoa(x.at))
	}
}

// R1, P6.3: many events in many tasks, and many tasks with one event, are told in little time.
func TestMasksOfManyTasks(t *testing.T) {
	const n = 3000
	s, _ := inText(t, "OS o { }; "+one("TASK", "T"))
	common := s.Items[1].Entries
	s.Items = s.Items[:1]
	for i := range n {
		entries := slices.Clone(common)
		for _, id := range []int{0, i, (i + 1) % n} {
			if !slices.ContainsFunc(entries, func(e api.Entry) bool { return e.Name == "EVENT" && e.Word == "E"+strconv.Itoa(id) }) {
				entries = append(entries, api.Entry{Name: "EVENT", Word: "E" + strconv.Itoa(id)})
			}
		}
		s.Items = append(s.Items, api.Item{Kind: "TASK", Name: "T" + strconv.Itoa(i), Entries: entries})
		s.Items = append(s.Items, api.Item{Kind: "EVENT", Name: "E" + strconv.Itoa(i), Entries: []api.Entry{{Name: "MASK", Auto: true}}})
	}
	for i, e := range resolves(t, s).Events {
		want := uint32(2 << (1 - i%2)) // beside the first, which all tasks have, each has two at its sides
		if i == 0 {
			want = 1
		}
		if e.Mask != want {
			t.Fatal(i, e)
		}
	}
}
