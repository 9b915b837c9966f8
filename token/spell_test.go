package token_test

import (
	"math"
	"slices"
	"strings"
	"testing"

	"tappet/api"
	"tappet/token"
)

func spells(t *testing.T, x api.Token, want string) {
	t.Helper()
	if s, e := token.Spell(x); s != want || e != api.OK {
		t.Errorf("Spell(%v): %q %d, not %q", x, s, e, want)
	}
	x.At = api.Spot{Off: -1, Line: math.MaxInt, Col: -7}
	if s, e := token.Spell(x); s != want || e != api.OK {
		t.Errorf("Spell(%v), at a spot that is none: %q %d, not %q", x, s, e, want)
	}
}

func spellsNot(t *testing.T, x api.Token) {
	t.Helper()
	if s, e := token.Spell(x); s != "" || e != api.ErrByte {
		t.Errorf("Spell(%v): %q %d, not ErrByte", x, s, e)
	}
	if s, e := token.Join([]api.Token{name("a"), x, end}); s != "" || e != api.ErrByte {
		t.Errorf("Join with %v: %q %d, not ErrByte", x, s, e)
	}
}

// P2.6
func TestSpell(t *testing.T) {
	spells(t, end, "")
	spells(t, opens, "{")
	spells(t, closes, "}")
	spells(t, equal, "=")
	spells(t, semi, ";")
	spells(t, colon, ":")
	spells(t, name("a"), "a")
	spells(t, name("_T9z"), "_T9z")
	spells(t, name(strings.Repeat("n", 63)), strings.Repeat("n", 63))
	spells(t, number(0), "0")
	spells(t, number(255), "255")
	spells(t, number(4294967295), "4294967295")
	spells(t, hex(0), "0x0")
	spells(t, hex(10), "0xA")
	spells(t, hex(0x9abcdef), "0x9ABCDEF")
	spells(t, hex(4294967295), "0xFFFFFFFF")
	spells(t, str(""), `""`)
	spells(t, str(`a"b\`), `"a\"b\\"`)
	spells(t, str("// ~"), `"// ~"`)
	for _, s := range []string{"s", `"`, `\`} {
		long := strings.Repeat(s, 255)
		want := `"` + strings.Repeat(s, 255) + `"`
		if s != "s" {
			want = `"` + strings.Repeat(`\`+s, 255) + `"`
		}
		spells(t, str(long), want)
		spellsNot(t, str(long+s))
	}
}

// P2.6: each byte in a name and in a string.
func TestSpellOfEachByte(t *testing.T) {
	for b := range 256 {
		s := string([]byte{byte(b)})
		first := 'A' <= b && b <= 'Z' || 'a' <= b && b <= 'z' || b == '_'
		if first {
			spells(t, name(s), s)
		} else {
			spellsNot(t, name(s))
			spellsNot(t, name(s+"a"))
		}
		if first || '0' <= b && b <= '9' {
			spells(t, name("a"+s), "a"+s)
			spells(t, name("a"+s+"b"), "a"+s+"b")
		} else {
			spellsNot(t, name("a"+s))
			spellsNot(t, name("a"+s+"b"))
		}
		switch {
		case b == '"' || b == '\\':
			spells(t, str("a"+s), `"a\`+s+`"`)
		case b >= 32 && b <= 126:
			spells(t, str("a"+s), `"a`+s+`"`)
		default:
			spellsNot(t, str(s))
			spellsNot(t, str("a"+s+"b"))
		}
	}
	spellsNot(t, str("caf\u00e9"))
	spellsNot(t, str("\u0130"))
}

// P2.6: tokens that are none.
func TestSpellOfWrongTokens(t *testing.T) {
	for _, k := range []api.TokenKind{-1, 9, 10, 255, 256, math.MaxInt, math.MinInt} {
		spellsNot(t, api.Token{Kind: k})
		spellsNot(t, api.Token{Kind: k, Text: "a"})
	}
	spellsNot(t, name(""))
	spellsNot(t, name(strings.Repeat("n", 64)))
	spellsNot(t, name("a b"))
	spellsNot(t, name("1a"))
	spellsNot(t, name("a\u00e9"))
	for k := api.TokenEnd; k <= api.TokenColon; k++ {
		x := api.Token{Kind: k}
		if k == api.TokenName {
			x.Text = "a"
		}
		if k != api.TokenNumber {
			value, hex, both := x, x, x
			value.Value = 1
			hex.Hex = true
			both.Value, both.Hex = 4294967295, true
			wrongAlone(t, value, hex, both)
		}
		if k != api.TokenName && k != api.TokenString {
			x.Text = "a"
			wrongAlone(t, x)
			x.Text = " "
			wrongAlone(t, x)
		}
	}
	wrongAlone(t, api.Token{Kind: api.TokenNumber, Value: 1, Text: "1"}, api.Token{Kind: api.TokenNumber, Hex: true, Text: "0x0"})
}

// wrongAlone holds tokens that are none also in the last place, where a TokenEnd may be.
func wrongAlone(t *testing.T, l ...api.Token) {
	t.Helper()
	for _, x := range l {
		spellsNot(t, x)
		if s, e := token.Join([]api.Token{semi, x}); s != "" || e != api.ErrByte {
			t.Errorf("Join with %v last: %q %d, not ErrByte", x, s, e)
		}
	}
}

// P2.7
func TestJoin(t *testing.T) {
	for want, l := range map[string][]api.Token{
		"a":                 {name("a")},
		"a ":                {name("a"), end},
		"a { 1 = 0xA } ":    {name("a"), opens, number(1), equal, hex(10), closes, end},
		`"" "\"" : ;`:       {str(""), str(`"`), colon, semi},
		"a b":               {name("a"), name("b")},
		"1 2 \"/*\" \"*/\"": {number(1), number(2), str("/*"), str("*/")},
	} {
		if s, e := token.Join(l); s != want || e != api.OK {
			t.Errorf("Join(%v): %q %d, not %q", l, s, e, want)
		}
	}
	for _, l := range [][]api.Token{nil, {}, {end}} {
		if s, e := token.Join(l); s != "" || e != api.OK {
			t.Errorf("Join(%v): %q %d", l, s, e)
		}
	}
}

// P2.7: an end ahead of the last place, and a token that is none in each place.
func TestJoinOfWrongTokens(t *testing.T) {
	for _, l := range [][]api.Token{{end, end}, {end, semi}, {semi, end, semi}, {semi, end, end}, {name("")}, {name(""), semi}, {semi, name("")}, {{Kind: 9}, end}} {
		if s, e := token.Join(l); s != "" || e != api.ErrByte {
			t.Errorf("Join(%v): %q %d, not ErrByte", l, s, e)
		}
	}
}

func someToken(c *chance) api.Token {
	const letters = "_aZ09xX"
	switch k := api.TokenKind(1 + c.below(8)); k {
	case api.TokenName:
		s := "a"
		for range c.below(63) {
			s += string(letters[c.below(len(letters))])
		}
		return name(s)
	case api.TokenNumber:
		return api.Token{Kind: k, Value: uint32(c.below(1<<31)) << 1 >> c.below(32), Hex: c.below(2) == 0}
	case api.TokenString:
		s := make([]byte, c.below(256))
		for i := range s {
			s[i] = byte(32 + c.below(95))
			if c.below(8) == 0 {
				s[i] = `"\`[c.below(2)]
			}
		}
		return str(string(s))
	default:
		return api.Token{Kind: k}
	}
}

// P2.7: Scan of what Join writes gives the same.
func TestScanOfJoin(t *testing.T) {
	c := chance(5)
	for range 3000 {
		var l []api.Token
		for range c.below(12) {
			l = append(l, someToken(&c))
		}
		kept := slices.Clone(l)
		for _, ends := range [][]api.Token{l, append(slices.Clone(l), end)} {
			s, e := token.Join(ends)
			if e != api.OK {
				t.Fatalf("Join(%v): %d", ends, e)
			}
			takes(t, s, l...)
		}
		if !slices.Equal(l, kept) {
			t.Fatal("Join changed what it was handed")
		}
	}
}

// P2.7: Join has no limit of its own; Scan takes what it writes up to MaxOil bytes.
func TestJoinOfManyTokens(t *testing.T) {
	l := slices.Repeat([]api.Token{semi}, 131072)
	s, e := token.Join(append(l, end))
	if e != api.OK || len(s) != 262144 {
		t.Fatal("Join of 131072 marks and an end:", len(s), e)
	}
	takes(t, s, l...)
	s, e = token.Join(append(l, semi, end))
	if e != api.OK || len(s) != 262146 {
		t.Fatal("Join of 131073 marks and an end:", len(s), e)
	}
	refuses(t, s, api.ErrLong, api.Spot{Line: 1, Col: 1})
}

// P2.8
func TestAt(t *testing.T) {
	text := "a\n\nbc\r\n\u00e9\x00\n"
	for off := range len(text) + 1 {
		if got := token.At(text, off); got != spotOf(text, off) {
			t.Errorf("At(%q, %d): %v, not %v", text, off, got, spotOf(text, off))
		}
	}
	last, first := spotOf(text, len(text)), api.Spot{Off: 0, Line: 1, Col: 1}
	if last != (api.Spot{Off: 11, Line: 5, Col: 1}) {
		t.Fatal("the text's end:", last)
	}
	for _, off := range []int{len(text) + 1, 1000, math.MaxInt} {
		if got := token.At(text, off); got != last {
			t.Errorf("At behind the end, %d: %v", off, got)
		}
	}
	for _, off := range []int{-1, -1000, math.MinInt} {
		if got := token.At(text, off); got != first {
			t.Errorf("At ahead of the beginning, %d: %v", off, got)
		}
	}
	for _, off := range []int{-1, 0, 1} {
		if got := token.At("", off); got != first {
			t.Errorf("At of the empty text, %d: %v", off, got)
		}
	}
	if got := token.At("\n\n\n", 2); got != (api.Spot{Off: 2, Line: 3, Col: 1}) {
		t.Error("At(3 lines, 2):", got)
	}
	long := strings.Repeat("x\n", api.MaxOil)
	if got := token.At(long, len(long)-1); got != (api.Spot{Off: 524287, Line: 262144, Col: 2}) {
		t.Error("At of a text that is too long to scan:", got)
	}
}
