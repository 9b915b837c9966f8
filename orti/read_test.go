package orti_test

import (
	"slices"
	"strings"
	"testing"

	"tappet/api"
	"tappet/orti"
)

// agrees holds Read against the second reading of the chapter; it tells whether the text was taken.
func agrees(t *testing.T, what, text string) bool {
	t.Helper()
	want, e := factsIn(text)
	if e != api.OK {
		readsNothing(t, what, text)
		return false
	}
	writes(t, what, want, text)
	return true
}

// texts are those of which each byte is turned: a small one, and one with two of each kind.
func texts() []string {
	o := wholeFacts()
	o.Tasks, o.Resources, o.Alarms, o.Isrs = o.Tasks[:2], o.Resources[4:6], o.Alarms[1:3], o.Isrs[:2]
	small, _ := textOf(api.Orti{OS: "o", Tasks: []api.OrtiTask{{Name: "t"}}})
	two, _ := textOf(o)
	return []string{head("o", `"NO_TASK" = 4294967295`), small, two}
}

// P11.3: texts in which one byte is other.
func TestAnotherByte(t *testing.T) {
	t.Parallel()
	taken := 0
	for _, s := range texts() {
		for i := range s {
			for _, b := range []byte{'x', 'A', '0', '1', '2', '9', '-', ' ', '\n', '\r', '\t', '"', ';', '{', '}', '[', ']', '$', '_', '\\', '\x00', '\xc3', s[i] + 1, s[i] - 1, s[i] ^ 32, s[i] ^ 128} {
				if b != s[i] && agrees(t, "another byte", s[:i]+string([]byte{b})+s[i+1:]) {
					taken++
				}
			}
		}
		if t.Failed() {
			return
		}
	}
	if taken < 100 {
		t.Errorf("%d taken", taken)
	}
}

// P11.3: texts in which one byte is missing, or too many.
func TestAByteMoreOrFewer(t *testing.T) {
	t.Parallel()
	for _, s := range texts() {
		for i := range s {
			agrees(t, "a byte missing", s[:i]+s[i+1:])
			agrees(t, "cut", s[:i])
			agrees(t, "a byte twice", s[:i+1]+s[i:])
		}
		for i := range len(s) + 1 {
			for _, b := range []string{" ", "\n", "\r", "\t", "0", "1", "x", "_", "\"", ";", ",", "\x00", "é", "\ufeff"} {
				agrees(t, "a byte too many", s[:i]+b+s[i:])
			}
		}
		if t.Failed() {
			return
		}
	}
}

// P11.3: lines left out, said twice, put in another order.
func TestLines(t *testing.T) {
	t.Parallel()
	for _, s := range append(texts(), textByHand()) {
		l := strings.SplitAfter(s, "\n")
		l = l[:len(l)-1]
		for i := range l {
			readsNothing(t, "left out", strings.Join(slices.Delete(slices.Clone(l), i, i+1), ""))
			readsNothing(t, "said twice", strings.Join(slices.Insert(slices.Clone(l), i, l[i]), ""))
			readsNothing(t, "an empty line", strings.Join(slices.Insert(slices.Clone(l), i, "\n"), ""))
			for j := range i {
				x := slices.Clone(l)
				x[i], x[j] = x[j], x[i]
				if l[i] == l[j] {
					reads(t, "the same", strings.Join(x, ""), must(t, s))
				} else {
					agrees(t, "another order", strings.Join(x, ""))
				}
			}
		}
		if t.Failed() {
			return
		}
	}
}

func must(t *testing.T, s string) api.Orti {
	o, e := orti.Read(s)
	if e != api.OK {
		t.Fatal(e)
	}
	return o
}

// objects are a text's objects behind its head, each with its lines.
func objects(s string) (ahead string, l []string) {
	l = strings.SplitAfter(s, "\n};\n")
	// VERSION, IMPLEMENTATION, OS; behind the last one nothing.
	return strings.Join(l[:3], ""), l[3 : len(l)-1]
}

// P11.3: whole objects left out, said twice, put in another order, those of a kind and those of another.
func TestObjects(t *testing.T) {
	ahead, l := objects(textByHand())
	if len(l) != 3+9+4+3 {
		t.Fatal(len(l))
	}
	taken := 0
	for i := range l {
		if agrees(t, "left out", ahead+strings.Join(slices.Delete(slices.Clone(l), i, i+1), "")) {
			taken++
		}
		readsNothing(t, "said twice", ahead+strings.Join(slices.Insert(slices.Clone(l), i, l[i]), ""))
		for j := range l {
			x := slices.Clone(l)
			x[i], x[j] = x[j], x[i]
			if i != j {
				readsNothing(t, "another order", ahead+strings.Join(x, ""))
			}
		}
	}
	// The last resource, the last alarm and the last ISR may be left out; a task stands in the head, too.
	if taken != 3 {
		t.Errorf("%d left out", taken)
	}
	readsNothing(t, "no tasks", ahead+strings.Join(l[3:], ""))
	kinds := [][]string{l[:3], l[3:12], l[12:16], l[16:]}
	for range 24 {
		x := ahead
		for _, k := range kinds {
			x += strings.Join(k, "")
		}
		if x == textByHand() {
			reads(t, "in order", x, wholeFacts())
		} else {
			readsNothing(t, "kinds in another order", x)
		}
		next(kinds, l)
	}
}

// next puts kinds into their next order, by the place of their first object.
func next(kinds [][]string, l []string) {
	place := func(k []string) int { return slices.Index(l, k[0]) }
	i := len(kinds) - 2
	for i >= 0 && place(kinds[i]) > place(kinds[i+1]) {
		i--
	}
	slices.Reverse(kinds[i+1:])
	if i < 0 {
		return
	}
	j := i + 1
	for place(kinds[j]) < place(kinds[i]) {
		j++
	}
	kinds[i], kinds[j] = kinds[j], kinds[i]
}

// P11.3: numbers that no writer writes so, at each number's place.
func TestNumbersRead(t *testing.T) {
	text := func(ceiling, locker, category, priority, requested string) string {
		return head("o", `"NO_TASK" = 4294967295`) + said(
			`RESOURCE r {`, `  CEILING = "`+ceiling+`";`, `  LOCKER = "$locker[`+locker+`]";`, `};`,
			`ISR i {`, `  CATEGORY = "`+category+`";`, `  PRIORITY = "`+priority+`";`, `  REQUESTED = "$requested[`+requested+`]";`, `};`)
	}
	want := api.Orti{OS: "o", Resources: []api.OrtiResource{{Name: "r", Ceiling: 5}}, Isrs: []api.OrtiIsr{{Name: "i", Category: 1, Priority: 70}}}
	reads(t, "as written", text("5", "0", "1", "70", "0"), want)
	for _, s := range []string{"05", "00", "-0", "-2", "-01", "+5", "128", "127.", "0x5", "", " 5", "5 ", "5\"", "1e1", "18446744073709551616", "18446744073709551621", "4294967301", "-18446744073709551615"} {
		readsNothing(t, "ceiling", text(s, "0", "1", "70", "0"))
	}
	for _, s := range []string{"00", "1", "-1", "-0", "", "01"} {
		readsNothing(t, "locker", text("5", s, "1", "70", "0"))
		readsNothing(t, "requested", text("5", "0", "1", "70", s))
	}
	for _, s := range []string{"0", "3", "01", "-1", "", "257", "18446744073709551617"} {
		readsNothing(t, "category", text("5", "0", s, "70", "0"))
	}
	for _, s := range []string{"63", "128", "070", "0", "-1", "", "326", "+70", "7O"} {
		readsNothing(t, "priority", text("5", "0", "1", s, "0"))
	}
	for ceiling := -1; ceiling <= 127; ceiling++ {
		o := plain(want)
		o.Resources[0].Ceiling = ceiling
		s, _ := textOf(o)
		reads(t, "ceiling", s, o)
	}
}

// P11.3: the list of tasks in the head is that of the tasks, with their numbers.
func TestListedTasks(t *testing.T) {
	body := said(
		`TASK a {`, `  PRIORITY = "$priority[0]";`, `  STATE = "$state[0]";`, `  ACTIVATIONS = "$active[0]";`, `  KIND = "BASIC";`, `};`,
		`TASK b {`, `  PRIORITY = "$priority[1]";`, `  STATE = "$state[1]";`, `  ACTIVATIONS = "$active[1]";`, `  KIND = "EXTENDED";`, `};`)
	reads(t, "as written", head("o", `"NO_TASK" = 4294967295, "a" = 0, "b" = 1`)+body, api.Orti{OS: "o", Tasks: []api.OrtiTask{{Name: "a"}, {Name: "b", Extended: true}}})
	for _, s := range []string{
		``, `"NO_TASK" = 4294967295`, `"a" = 0, "b" = 1`, `"NO_TASK" = 4294967295, "a" = 0`, `"NO_TASK" = 4294967295, "b" = 1`, `"NO_TASK" = 4294967295, "b" = 1, "a" = 0`, `"NO_TASK" = 4294967295, "b" = 0, "a" = 1`,
		`"NO_TASK" = 4294967295, "a" = 0, "b" = 1, "c" = 2`, `"NO_TASK" = 4294967295, "a" = 0, "b" = 1, `, `"NO_TASK" = 4294967295, "a" = 0, "b" = 01`, `"NO_TASK" = 4294967295, "a" = 0,"b" = 1`, `"NO_TASK" = 4294967295, "a" = 0, "b" = 2`,
		`"NO_TASK" = 4294967294, "a" = 0, "b" = 1`, `"NO_TASK" = -1, "a" = 0, "b" = 1`, `"NONE" = 4294967295, "a" = 0, "b" = 1`, `"a" = 0, "b" = 1, "NO_TASK" = 4294967295`, `"NO_TASK" = 4294967295, "a" = 0, "c" = 1`, `"NO_TASK" = 4294967295, a = 0, b = 1`,
	} {
		readsNothing(t, s, head("o", s)+body)
	}
}

// P11.3: what no Write writes at all.
func TestNoText(t *testing.T) {
	for _, s := range []string{"", "\n", " ", "x", "VERSION {", "VERSION {\n", "OS o {\n  RUNNINGTASK = \"$running\";\n};\n", "\x00", strings.Repeat("\n", 99), strings.Repeat("TASK ", 99)} {
		readsNothing(t, "no text", s)
	}
	s := textByHand()
	for what, x := range map[string]string{
		"twice": s + s, "more": s + "x", "a line more": s + "\n", "a blank ahead": " " + s, "a mark ahead": "\ufeff" + s,
		"carriage returns": strings.ReplaceAll(s, "\n", "\r\n"), "tabs": strings.ReplaceAll(s, "  ", "\t"), "small": strings.ToLower(s), "no last line's end": strings.TrimSuffix(s, "\n"),
		"OS twice": s + "OS o {\n  RUNNINGTASK = \"$running\";\n};\n", "a bad action": strings.ReplaceAll(s, "SETEVENT t1 e0", "SETEVENT t1"), "another OS": strings.ReplaceAll(s, "OS os_1 {", "OS 1 {"),
		"another kind": strings.ReplaceAll(s, `"BASIC"`, `"basic"`), "no kind": strings.ReplaceAll(s, `"BASIC"`, `""`), "a long name": strings.ReplaceAll(s, "os_1", strings.Repeat("o", 64)),
	} {
		readsNothing(t, what, x)
	}
}
