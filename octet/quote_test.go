package octet_test

import (
	"fmt"
	"regexp"
	"testing"

	"tappet/api"
	"tappet/octet"
)

func quotedByte(b int) string {
	switch {
	case b == '"':
		return `\"`
	case b == '\\':
		return `\\`
	case isText(b):
		return string(rune(b))
	}
	return fmt.Sprintf(`\x%02x`, b)
}

// P1.6, P1.8
func TestQuoteOfEachPair(t *testing.T) {
	for a := range 256 {
		for b := range 256 {
			s := string([]byte{byte(a), byte(b)})
			q := octet.Quote(s)
			if q != `"`+quotedByte(a)+quotedByte(b)+`"` {
				t.Fatalf("Quote(%x): %s", s, q)
			}
			if got, e := octet.Unquote(q); got != s || e != api.OK {
				t.Fatalf("Unquote(%s): %x %d", q, got, e)
			}
		}
	}
}

// P1.6
func TestQuoteExamples(t *testing.T) {
	for _, x := range [][2]string{
		{"", `""`},
		{"a\"b\n", `"a\"b\x0a"`},
		{`\x41`, `"\\x41"`},
		{" ~\x1f\x7f\x80\xff\x00", `" ~\x1f\x7f\x80\xff\x00"`},
		{"\u00e9", `"\xc3\xa9"`},
	} {
		if q := octet.Quote(x[0]); q != x[1] {
			t.Errorf("Quote(%q): %s, not %s", x[0], q, x[1])
		}
		if s, e := octet.Unquote(x[1]); s != x[0] || e != api.OK {
			t.Errorf("Unquote(%s): %q %d, not %q", x[1], s, e, x[0])
		}
	}
}

// P1.6
func TestUnquoteOfWrongTexts(t *testing.T) {
	for _, s := range []string{
		"", `"`, `a`, `a"`, `"a`, `'a'`, "`a`", `"""`, `""""`, `"\"`, `"\`, `"\\\"`, ` ""`, `"" `, `"a"b`,
		`"\a"`, `"\n"`, `"\0"`, `"\'"`, `"\u00e9"`, `"\x"`, `"\x0"`, `"\x0`, `"\x0a`, `"\X0a"`, `"\x0A"`, `"\xFF"`, `"\x0g"`, `"\x 0"`,
		`"\x41"`, `"\x20"`, `"\x7e"`, `"\x22"`, `"\x5c"`, "\"\n\"", "\"\x1f\"", "\"\x7f\"", "\"\x80\"", "\"\u00e9\"", "\"\xff\"", `"a"b"`,
	} {
		if got, e := octet.Unquote(s); got != "" || e != api.ErrQuote {
			t.Errorf("Unquote(%q): %q %d, not ErrQuote", s, got, e)
		}
	}
}

// P1.6: a byte written by its digits is taken just if Quote writes it so.
func TestUnquoteOfEachByteByDigits(t *testing.T) {
	for b := range 256 {
		s := fmt.Sprintf(`"\x%02x"`, b)
		got, e := octet.Unquote(s)
		if isText(b) && (got != "" || e != api.ErrQuote) {
			t.Errorf("Unquote(%s): %q %d, not ErrQuote", s, got, e)
		}
		if !isText(b) && (got != string([]byte{byte(b)}) || e != api.OK) {
			t.Errorf("Unquote(%s): %q %d", s, got, e)
		}
	}
}

// P1.6, P1.8: all short rows of bytes that matter to quotes, held against what Quote can write.
func TestUnquoteOfAllShortRows(t *testing.T) {
	can := regexp.MustCompile(`^"([ !#-\[\]-~]|\\["\\]|\\x([01][0-9a-f]|7f|[89a-f][0-9a-f]))*"$`)
	letters := []byte("\"\\x07fA\n")
	var rows func(row []byte, more int)
	rows = func(row []byte, more int) {
		s := string(row)
		got, e := octet.Unquote(s)
		if can.MatchString(s) {
			if e != api.OK || octet.Quote(got) != s {
				t.Errorf("Unquote(%q): %q %d", s, got, e)
			}
		} else if e != api.ErrQuote || got != "" {
			t.Errorf("Unquote(%q): %q %d, not ErrQuote", s, got, e)
		}
		for _, l := range letters {
			if more > 0 {
				rows(append(row, l), more-1)
			}
		}
	}
	rows(nil, 5)
	rows([]byte(`"\x`), 4)
}

// P1.8
func TestQuoteThereAndBack(t *testing.T) {
	c := chance(3)
	for range 1000 {
		s := string(c.bytes(400))
		if got, e := octet.Unquote(octet.Quote(s)); e != api.OK || got != s {
			t.Fatalf("Unquote of Quote(%q): %q %d", s, got, e)
		}
	}
}
