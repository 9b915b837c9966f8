package orti_test

import (
	"strings"
	"testing"

	"tappet/api"
	"tappet/orti"
)

// P11.1, P11.5: Facts, of configurations made by chance and of spoilt ones; what may be can be written, and read again.
func TestFactsByChance(t *testing.T) {
	m := &maker{chance: 1}
	kinds := map[api.Errno]int{}
	for n := range 6000 {
		c := m.config()
		if n%2 == 1 {
			c = spoilt(m, c)
		}
		want, e := factsOf(c)
		kinds[e]++
		if e != api.OK {
			tellsNothing(t, "chance", c)
		} else {
			facts(t, "chance", c, want)
			text, _ := textOf(want)
			writes(t, "chance", want, text)
		}
		if t.Failed() {
			return
		}
	}
	if kinds[api.OK] < 3000 || kinds[api.ErrArg] < 500 {
		t.Error(kinds)
	}
}

// P11.2, P11.5: there and back, of facts made by chance and of spoilt ones.
func TestWriteByChance(t *testing.T) {
	m := &maker{chance: 2}
	kinds := map[api.Errno]int{}
	for n := range 6000 {
		o := m.facts()
		if n%2 == 1 {
			o = spoilt(m, o)
		}
		want, e := textOf(o)
		kinds[e]++
		if e != api.OK {
			writesNothing(t, "chance", o)
		} else {
			writes(t, "chance", o, want)
		}
		if t.Failed() {
			return
		}
	}
	if kinds[api.OK] < 3000 || kinds[api.ErrOrti] < 500 {
		t.Error(kinds)
	}
}

// twist turns a text in one of its pieces: bytes, words or lines.
func (m *maker) twist(s string) string {
	cut := pick(&m.chance, "", " ", "\n", "\"", "};\n")
	l := strings.SplitAfter(s, cut)
	i, j := m.below(len(l)), m.below(len(l))
	switch m.below(4) {
	case 0:
		l[i], l[j] = l[j], l[i]
	case 1:
		l[i] = ""
	case 2:
		l[i] = l[j]
	case 3:
		l[i] += l[j]
	}
	return strings.Join(l, "")
}

// P11.3, P11.5: Read, of texts in which something is turned; what it takes is written as the same text.
func TestReadByChance(t *testing.T) {
	m := &maker{chance: 3}
	taken := 0
	for range 8000 {
		s, _ := textOf(m.facts())
		for range 1 + m.below(2) {
			s = m.twist(s)
		}
		if agrees(t, "chance", s) {
			taken++
		}
		if t.Failed() {
			return
		}
	}
	if taken < 150 {
		t.Errorf("%d taken", taken)
	}
}

// P11.4: Eval, of facts, looks and expressions made by chance.
func TestEvalByChance(t *testing.T) {
	m := &maker{chance: 4}
	kinds := map[api.Errno]int{}
	for range 6000 {
		o := m.facts()
		l := m.look(o)
		for range 8 {
			expr := m.expression(o)
			want, e := valueOf(o, expr, l)
			kinds[e]++
			if e != api.OK {
				noValue(t, o, expr, l)
			} else {
				value(t, o, expr, l, want)
			}
		}
		if t.Failed() {
			return
		}
	}
	if kinds[api.OK] < 9000 || kinds[api.ErrExpr] < 9000 {
		t.Error(kinds)
	}
}

// P11.3, P11.5: whatever bytes Read is given.
func FuzzRead(f *testing.F) {
	for _, s := range append(texts(), "", textByHand()) {
		f.Add(s)
	}
	f.Fuzz(func(t *testing.T, s string) { agrees(t, "fuzz", s) })
}

// P11.4: whatever expression Eval is given.
func FuzzEval(f *testing.F) {
	for _, s := range []string{"$running", "$state[0]", "$locker[1]", "$left[1]", "$requested[2]", "17", "-1", "18446744073709551616"} {
		f.Add(s)
	}
	f.Fuzz(func(t *testing.T, s string) {
		want, e := valueOf(wholeFacts(), s, stands())
		if got, also := orti.Eval(wholeFacts(), s, stands()); got != want || also != e {
			t.Errorf("Eval of %q: %d %q, not %d %q", s, also, got, e, want)
		}
	})
}
