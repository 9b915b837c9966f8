package token_test

import (
	"fmt"
	"regexp"
	"slices"
	"strconv"
	"strings"
	"testing"

	"tappet/api"
	"tappet/token"
)

// chance is a row of numbers that is the same in every run.
type chance uint64

func (c *chance) below(n int) int {
	*c = *c*6364136223846793005 + 1442695040888963407
	return int((uint64(*c) >> 33) % uint64(n))
}

func pick[T any](c *chance, l []T) T { return l[c.below(len(l))] }

func name(s string) api.Token   { return api.Token{Kind: api.TokenName, Text: s} }
func str(s string) api.Token    { return api.Token{Kind: api.TokenString, Text: s} }
func number(v uint32) api.Token { return api.Token{Kind: api.TokenNumber, Value: v} }
func hex(v uint32) api.Token    { return api.Token{Kind: api.TokenNumber, Value: v, Hex: true} }

var (
	opens  = api.Token{Kind: api.TokenOpen}
	closes = api.Token{Kind: api.TokenClose}
	equal  = api.Token{Kind: api.TokenEqual}
	semi   = api.Token{Kind: api.TokenSemi}
	colon  = api.Token{Kind: api.TokenColon}
	end    = api.Token{Kind: api.TokenEnd}
)

// bare answers tokens without their spots.
func bare(l []api.Token) []api.Token {
	l = slices.Clone(l)
	for i := range l {
		l[i].At = api.Spot{}
	}
	return l
}

// spotOf is told by the words of the chapter, a byte at a time.
func spotOf(text string, off int) api.Spot {
	s := api.Spot{Off: off, Line: 1, Col: 1}
	for i := range off {
		s.Col++
		if text[i] == 10 {
			s.Line++
			s.Col = 1
		}
	}
	return s
}

func takes(t *testing.T, text string, want ...api.Token) []api.Token {
	t.Helper()
	l, f := token.Scan(text)
	if f != (api.Fault{}) || !slices.Equal(bare(l), append(want, end)) {
		t.Errorf("Scan(%.80q): %.300s %v", text, fmt.Sprint(l), f)
	}
	return l
}

func refuses(t *testing.T, text string, code api.Errno, at api.Spot) {
	t.Helper()
	l, f := token.Scan(text)
	if f != (api.Fault{Code: code, At: at}) || len(l) != 0 {
		t.Errorf("Scan(%.80q): %.300s %v, not %d at %v", text, fmt.Sprint(l), f, code, at)
	}
}

// refusesAt holds a fault against a text in three places: alone, behind a token, and on a third line.
func refusesAt(t *testing.T, text string, code api.Errno, off int) {
	t.Helper()
	refuses(t, text, code, api.Spot{Off: off, Line: 1, Col: off + 1})
	refuses(t, "x;"+text, code, api.Spot{Off: off + 2, Line: 1, Col: off + 3})
	refuses(t, "/*\n*/x //\n :"+text, code, api.Spot{Off: off + 12, Line: 3, Col: off + 3})
}

// P2.1: the chapter's examples.
func TestScanOfTheExamples(t *testing.T) {
	takes(t, "TASK T1 { PRIORITY = 0x0a; };", name("TASK"), name("T1"), opens, name("PRIORITY"), equal, hex(10), semi, closes, semi)
	takes(t, "a/* b */1", name("a"), number(1))
	refuses(t, "a/*/", api.ErrComment, api.Spot{Off: 1, Line: 1, Col: 2})
	refuses(t, "007", api.ErrNumber, api.Spot{Off: 0, Line: 1, Col: 1})
	refuses(t, "0x", api.ErrNumber, api.Spot{Off: 0, Line: 1, Col: 1})
	refuses(t, "4294967296", api.ErrNumber, api.Spot{Off: 0, Line: 1, Col: 1})
	takes(t, "0x00000000FFFFFFFF", hex(4294967295))
	takes(t, `"a\"b\\"`, str(`a"b\`))
	refuses(t, "\"a\n", api.ErrString, api.Spot{Off: 2, Line: 1, Col: 3})
	refuses(t, `"a`, api.ErrString, api.Spot{Off: 0, Line: 1, Col: 1})
	refuses(t, "x\n  @", api.ErrByte, api.Spot{Off: 4, Line: 2, Col: 3})
	takes(t, "a{1", name("a"), opens, number(1))
	refuses(t, "1a", api.ErrNumber, api.Spot{Off: 0, Line: 1, Col: 1})
}

// P2.1: a text of a kind of thing each, and of nothing.
func TestScanOfEachThing(t *testing.T) {
	takes(t, "")
	takes(t, " \t\n\r")
	takes(t, "{}=;:", opens, closes, equal, semi, colon)
	takes(t, "_ a Z az_AZ09 __1", name("_"), name("a"), name("Z"), name("az_AZ09"), name("__1"))
	takes(t, `a"b"c"""d"1"e"`, name("a"), str("b"), name("c"), str(""), str("d"), number(1), str("e"))
	takes(t, "a//b", name("a"))
	takes(t, "a//b\nc", name("a"), name("c"))
	takes(t, "a///*\nb//*/\r\nc", name("a"), name("b"), name("c"))
	takes(t, "/**/a/***//*/*/b/*//*/", name("a"), name("b"))
	takes(t, "a/* /* */b", name("a"), name("b"))
	takes(t, "/*\x00\xff\"*/a//\x00\xff\"", name("a"))
	takes(t, `"/*"b"//"`, str("/*"), name("b"), str("//"))
	takes(t, "//")
	takes(t, "//\n")
}

// P2.1
func TestScanSpots(t *testing.T) {
	l := takes(t, "a\r\n /*\n\n*/\"b\" 12{\n", name("a"), str("b"), number(12), opens)
	want := []api.Spot{{Off: 0, Line: 1, Col: 1}, {Off: 10, Line: 4, Col: 3}, {Off: 14, Line: 4, Col: 7}, {Off: 16, Line: 4, Col: 9}, {Off: 18, Line: 5, Col: 1}}
	for i, x := range l {
		if x.At != want[i] {
			t.Errorf("token %d stands at %v, not %v", i, x.At, want[i])
		}
	}
	for text, at := range map[string]api.Spot{"": {Off: 0, Line: 1, Col: 1}, "a ": {Off: 2, Line: 1, Col: 3}, "//\n": {Off: 3, Line: 2, Col: 1}, "//a": {Off: 3, Line: 1, Col: 4}, "/*\n*/": {Off: 5, Line: 2, Col: 3}} {
		l, _ := token.Scan(text)
		if len(l) == 0 || l[len(l)-1] != (api.Token{At: at}) {
			t.Errorf("the end of %q: %v, not %v", text, l, at)
		}
	}
}

// P2.1: each byte by itself, and behind a name, a number, a mark, a blank.
func TestScanOfEachByte(t *testing.T) {
	for b := range 256 {
		s := string([]byte{byte(b)})
		switch {
		case strings.Contains(" \t\n\r", s):
			takes(t, s)
			takes(t, "a"+s+"b", name("a"), name("b"))
		case strings.Contains("{}=;:", s):
			m := api.Token{Kind: api.TokenOpen + api.TokenKind(strings.Index("{}=;:", s))}
			takes(t, s, m)
			takes(t, "a"+s+"1", name("a"), m, number(1))
		case '0' <= b && b <= '9':
			takes(t, s, number(uint32(b-'0')))
			takes(t, "a"+s, name("a"+s))
		case 'A' <= b && b <= 'Z', 'a' <= b && b <= 'z', b == '_':
			takes(t, s, name(s))
			refusesAt(t, "1"+s, api.ErrNumber, 0)
		case b == '"':
			refusesAt(t, s, api.ErrString, 0)
		default:
			refusesAt(t, s, api.ErrByte, 0)
			refusesAt(t, s+"a", api.ErrByte, 0)
			refusesAt(t, "a"+s, api.ErrByte, 1)
			refusesAt(t, "1"+s, api.ErrByte, 1)
			refusesAt(t, "{ "+s, api.ErrByte, 2)
		}
	}
}

// P2.1: ErrByte and ErrComment.
func TestScanOfWrongBytesAndComments(t *testing.T) {
	for text, off := range map[string]int{"/": 0, "a/": 1, "a/b": 1, "/ /": 0, "/ *": 0, "/\n/": 0, "-1": 0, "1.5": 1, "a-b": 1, "*/": 0, "/* */*/": 5, "caf\u00e9": 3, "\u00a0a": 0, "a\ufeff": 1, "'a'": 0, "#": 0, "a,b": 1} {
		refusesAt(t, text, api.ErrByte, off)
	}
	for text, off := range map[string]int{"/*": 0, "/*/": 0, "/**": 0, "/* *": 0, "/* * /": 0, "a/*\n\n": 1, "/**//*": 4, "a /* // \n": 2, "/*/ \"": 0} {
		refusesAt(t, text, api.ErrComment, off)
	}
}

// P2.1: names of 63 and 64 bytes.
func TestScanOfLongNames(t *testing.T) {
	for _, first := range []string{"a", "_", "Z"} {
		s := first + strings.Repeat("9", 62)
		takes(t, s, name(s))
		takes(t, s+"{"+s, name(s), opens, name(s))
		refusesAt(t, s+"_", api.ErrLong, 0)
		refusesAt(t, "b "+s+"z@", api.ErrLong, 2)
	}
	refusesAt(t, strings.Repeat("n", 100000), api.ErrLong, 0)
}

// P2.1: numbers that are right.
func TestScanOfNumbers(t *testing.T) {
	for text, want := range map[string]api.Token{
		"0": number(0), "1": number(1), "10": number(10), "4294967295": number(4294967295), "4294967290": number(4294967290), "999999999": number(999999999),
		"0x0": hex(0), "0X0": hex(0), "0x00": hex(0), "0xfF": hex(255), "0XaB09": hex(0xab09), "0xffffffff": hex(4294967295), "0xFFFFFFFF": hex(4294967295),
		"0x" + strings.Repeat("0", 5000) + "ffffffff": hex(4294967295), "0x1e5": hex(0x1e5), "0x0b1": hex(0xb1),
	} {
		takes(t, text, want)
		takes(t, text+"{"+text, want, opens, want)
	}
}

// P2.1: numbers that are none.
func TestScanOfWrongNumbers(t *testing.T) {
	for _, text := range []string{"00", "01", "007", "0a", "0_", "08", "1_000", "1_", "0x", "0X", "0xg", "0xG", "0x_1", "0x1_", "0x1g", "0xx1", "0x0x1", "00x1", "1x1", "0b1", "0o7", "1e5", "9a", "1A", "0y1", "0z",
		"4294967296", "4294967300", "42949672950", "9999999999", "18446744073709551616", "18446744073709551617", "0x100000000", "0x1000000000000000000000001", "0x0100000000", "00000000000000000000001",
		strings.Repeat("9", 100000), "0x" + strings.Repeat("F", 100000)} {
		refusesAt(t, text, api.ErrNumber, 0)
		refusesAt(t, text+"@", api.ErrNumber, 0)
	}
	refusesAt(t, "1 01", api.ErrNumber, 2)
}

// P2.1: each byte in a string, as it is and behind a backslash.
func TestScanOfEachByteInAString(t *testing.T) {
	for b := range 256 {
		s := string([]byte{byte(b)})
		switch {
		case b == '"' || b == '\\':
			takes(t, `"a\`+s+`b"`, str("a"+s+"b"))
			takes(t, `"\`+s+`"`, str(s))
			continue
		case b >= 32 && b <= 126:
			takes(t, `"a`+s+`b"`, str("a"+s+"b"))
		default:
			refusesAt(t, `"`+s+`"`, api.ErrString, 1)
			refusesAt(t, `"ab`+s, api.ErrString, 3)
			refusesAt(t, `"\\`+s+`"`, api.ErrString, 3)
		}
		refusesAt(t, `"a\`+s+`b"`, api.ErrString, 2)
		refusesAt(t, `"\\\"\`+s, api.ErrString, 5)
	}
}

// P2.1: strings that do not end, and backslashes at the text's end.
func TestScanOfStringsWithoutEnd(t *testing.T) {
	for text, off := range map[string]int{`"`: 0, `"abc`: 0, `"a\"`: 0, `"a\\\"`: 0, `"\`: 1, `"ab\`: 3, `"a\\\`: 4, `"\"\`: 3, `"a" "b`: 4, `"""`: 2, `"/* */ // {}`: 0, `"\\`: 0} {
		refusesAt(t, text, api.ErrString, off)
	}
	refusesAt(t, `"caf`+"\u00e9"+`"`, api.ErrString, 4)
	refusesAt(t, "\"\xe2\x82\"", api.ErrString, 1)
	refusesAt(t, `"a\`+"\u00e9"+`"`, api.ErrString, 2)
	refusesAt(t, "\"\u0130\u0122\"", api.ErrString, 1)
}

// P2.1: strings that say 255 and 256 bytes; a byte at fault in a long one comes first.
func TestScanOfLongStrings(t *testing.T) {
	for written, said := range map[string]string{"a": "a", "~": "~", " ": " ", `\"`: `"`, `\\`: `\`} {
		takes(t, `"`+strings.Repeat(written, 255)+`"`, str(strings.Repeat(said, 255)))
		refusesAt(t, `"`+strings.Repeat(written, 256)+`"`, api.ErrLong, 0)
		refusesAt(t, `"`+strings.Repeat(written, 1000)+`"@`, api.ErrLong, 0)
		refusesAt(t, `"`+strings.Repeat(written, 300), api.ErrString, 0)
		refusesAt(t, `"`+strings.Repeat(written, 300)+"\n\"", api.ErrString, 1+300*len(written))
		refusesAt(t, `"`+strings.Repeat(written, 300)+`\n"`, api.ErrString, 1+300*len(written))
	}
	takes(t, `"`+strings.Repeat("a", 254)+`\"" "b"`, str(strings.Repeat("a", 254)+`"`), str("b"))
}

// P2.1: texts of 262144 and 262145 bytes.
func TestScanOfLongTexts(t *testing.T) {
	for _, fill := range []string{" ", "\n", "a\n", ";"} {
		text := "//" + strings.Repeat(fill, (api.MaxOil-2)/len(fill))
		l, f := token.Scan(text)
		if f != (api.Fault{}) || len(text) != 262144 || l[len(l)-1] != (api.Token{At: spotOf(text, 262144)}) {
			t.Errorf("a text of %d bytes: %d tokens, %v", len(text), len(l), f)
		}
		refuses(t, text+" ", api.ErrLong, api.Spot{Line: 1, Col: 1})
	}
	marks := strings.Repeat(";\n", api.MaxOil/2)
	l, f := token.Scan(marks)
	if f != (api.Fault{}) || len(l) != api.MaxOil/2+1 || l[len(l)-1].At != (api.Spot{Off: 262144, Line: 131073, Col: 1}) {
		t.Errorf("262144 bytes of marks and lines: %d tokens, %v", len(l), f)
	}
	for _, wrong := range []string{"@", "01", `"`, "/*", "\n@"} {
		refuses(t, wrong+strings.Repeat(" ", api.MaxOil+1-len(wrong)), api.ErrLong, api.Spot{Line: 1, Col: 1})
		refuses(t, strings.Repeat(wrong, api.MaxOil+1), api.ErrLong, api.Spot{Line: 1, Col: 1})
	}
	refuses(t, strings.Repeat("\n", api.MaxOil-1)+"@", api.ErrByte, api.Spot{Off: 262143, Line: 262144, Col: 1})
}

// P2.1: the first fault from the left is told.
func TestScanTellsTheFirstFault(t *testing.T) {
	wrong := map[string]api.Errno{"@": api.ErrByte, "01": api.ErrNumber, strings.Repeat("n", 64): api.ErrLong, "\"\\n\"": api.ErrString, `"` + strings.Repeat("s", 256) + `"`: api.ErrLong}
	for first, code := range wrong {
		for second := range wrong {
			off := 0
			if code == api.ErrString {
				off = 1
			}
			refusesAt(t, first+" "+second, code, off)
			refusesAt(t, first+" /*", code, off)
		}
	}
}

// thing is what may stand in a text: blanks, comments, tokens that are right but for their size. A digit and the byte behind a number tell whether it goesOn: then it is none.
var (
	thing   = regexp.MustCompile(`^(?:[ \t\n\r]+|//[^\n]*|/\*(?s:.*?)\*/|[A-Za-z_][A-Za-z0-9_]*|0[xX][0-9A-Fa-f]+|0|[1-9][0-9]*|"(?:[ !#-\[\]-~]|\\["\\])*"|[{}=;:])`)
	goesOn  = regexp.MustCompile(`^[0-9][A-Za-z0-9_]$`)
	escapes = regexp.MustCompile(`\\(.)`)
)

// expected reads a text by the expression above: its tokens, and where they end, if the text goes on with something else.
func expected(text string) ([]api.Token, int) {
	var l []api.Token
	off := 0
	for off < len(text) {
		s := thing.FindString(text[off:])
		if s == "" || off+len(s) < len(text) && goesOn.MatchString(s[:1]+text[off+len(s):][:1]) {
			return nil, off
		}
		x := api.Token{At: spotOf(text, off)}
		switch {
		case strings.Contains(" \t\n\r/", s[:1]):
			off += len(s)
			continue
		case strings.Contains("{}=;:", s):
			x.Kind = api.TokenOpen + api.TokenKind(strings.Index("{}=;:", s))
		case s[0] == '"':
			x.Kind, x.Text = api.TokenString, escapes.ReplaceAllString(s[1:len(s)-1], "$1")
		case '0' <= s[0] && s[0] <= '9':
			v, err := strconv.ParseUint(s, 0, 32)
			if err != nil {
				return nil, off
			}
			x.Kind, x.Value, x.Hex = api.TokenNumber, uint32(v), len(s) > 1 && s[0] == '0'
		default:
			x.Kind, x.Text = api.TokenName, s
		}
		l = append(l, x)
		off += len(s)
	}
	return append(l, api.Token{At: spotOf(text, off)}), -1
}

func holdAgainstExpected(t *testing.T, text string) {
	t.Helper()
	l, f := token.Scan(text)
	want, bad := expected(text)
	if bad < 0 && (f != (api.Fault{}) || !slices.Equal(l, want)) {
		t.Fatalf("Scan(%q): %v %v, not %v", text, l, f, want)
	}
	if bad >= 0 && (len(l) != 0 || f.Code == api.OK || f.At.Off < bad || f.At.Off > bad && f.Code != api.ErrString || f.At != spotOf(text, f.At.Off)) {
		t.Fatalf("Scan(%q): %v %v, not a fault from byte %d on", text, l, f, bad)
	}
}

// P2.1: all texts of four of these bytes.
func TestScanOfAllShortTexts(t *testing.T) {
	const bytes = "ax_019\"\\/*\n {;\x7f"
	for i := range len(bytes) * len(bytes) * len(bytes) * len(bytes) {
		text := ""
		for range 4 {
			text += bytes[i%len(bytes) : i%len(bytes)+1]
			i /= len(bytes)
		}
		holdAgainstExpected(t, text)
		holdAgainstExpected(t, strings.TrimSpace(text))
	}
}

// P2.1
func TestScanOfTextsOfPieces(t *testing.T) {
	pieces := []string{"a", "T1", "_", "0", "0x1F", "12", "4294967295", "4294967296", "\"", "\\", "//", "/*", "*/", "*", "/", "\n", " ", "\t", "\r", "{", "}", "=", ";", ":", "\xff", "\u00e9", "\x00"}
	c := chance(1)
	for range 20000 {
		text := ""
		for range c.below(14) {
			text += pick(&c, pieces)
		}
		holdAgainstExpected(t, text)
	}
}

// rightText answers a text that is right, and what stands in it.
func rightText(c *chance, parts, blanks []string) (string, []api.Token) {
	var l []api.Token
	text := pick(c, blanks)
	for range c.below(20) {
		s := pick(c, parts)
		x, _ := token.Scan(s)
		l = append(l, bare(x[:1])...)
		text += s + pick(c, blanks)
	}
	return text, l
}

var (
	rightParts = []string{"a", "TASK", "_x9", "0", "17", "0xAb", `"s\"\\ //"`, `""`, "{", "}", "=", ";", ":"}
	someBlanks = []string{" ", "\t", "\n", "\r", "// a \"\n", "/**/", "/* { \n */", " /*/*/ \r\n", "//\n//\n"}
)

// P2.2: spots rise, and are those of At.
func TestSpotsRise(t *testing.T) {
	c := chance(2)
	for range 2000 {
		text, _ := rightText(&c, rightParts, someBlanks)
		l, f := token.Scan(text)
		if f != (api.Fault{}) {
			t.Fatalf("Scan(%q): %v", text, f)
		}
		for i, x := range l {
			if i > 0 && x.At.Off <= l[i-1].At.Off || x.At != token.At(text, x.At.Off) || x.At != spotOf(text, x.At.Off) {
				t.Fatalf("Scan(%q): token %d at %v", text, i, x.At)
			}
		}
		if l[len(l)-1].At.Off != len(text) {
			t.Fatalf("Scan(%q): the end at %v", text, l[len(l)-1].At)
		}
	}
}

// P2.3: blanks and comments between tokens change the spots alone.
func TestBlanksChangeNothing(t *testing.T) {
	c := chance(3)
	for range 2000 {
		text, want := rightText(&c, rightParts, someBlanks)
		takes(t, text, want...)
		l, _ := token.Scan(text)
		// What stands ahead of each token, and behind the last one, gets more.
		more := ""
		for i, x := range l {
			from := 0
			if i > 0 {
				from = l[i-1].At.Off
			}
			more += text[from:x.At.Off] + pick(&c, someBlanks)
		}
		takes(t, more, want...)
	}
}

// P2.3: one blank between two tokens that stood side by side.
func TestOneBlankBetween(t *testing.T) {
	for text, apart := range map[string]string{"a{1": "a { 1", `a"b"c`: `a "b" c`, "T1=0x1;}": "T1 = 0x1 ; }", "::{}": ": : { }", `1"1"1`: `1 "1" 1`} {
		l, f := token.Scan(text)
		m, g := token.Scan(apart)
		if f != (api.Fault{}) || g != f || !slices.Equal(bare(l), bare(m)) {
			t.Errorf("Scan(%q): %v %v; Scan(%q): %v %v", text, l, f, apart, m, g)
		}
	}
}

// P2.3: each beginning that ends where a token ends.
func TestBeginnings(t *testing.T) {
	c := chance(4)
	for range 500 {
		text, want := rightText(&c, rightParts, someBlanks)
		l, _ := token.Scan(text)
		for i := range want {
			s, _ := token.Spell(want[i])
			if want[i].Kind == api.TokenNumber && want[i].Hex {
				s = "0xAb"
			}
			takes(t, text[:l[i].At.Off+len(s)], want[:i+1:i+1]...)
		}
	}
}

// What Scan answers is its caller's: another call is not touched by a change of it.
func TestAnswersShareNothing(t *testing.T) {
	l, _ := token.Scan("a;{")
	l[0], l[1] = str("other"), str("other")
	takes(t, "a;{", name("a"), semi, opens)
}
