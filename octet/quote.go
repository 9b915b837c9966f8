package octet

import (
	"strings"

	"tappet/api"
)

// Quote answers bytes in quotes (P1.6).
func Quote(s string) string {
	out := make([]byte, 0, len(s)+2)
	out = append(out, '"')
	// Bytes are gone through, not runes: any bytes come back, those of no rune too.
	for i := range len(s) {
		out = appendQuoted(out, s[i])
	}
	return string(append(out, '"'))
}

func appendQuoted(out []byte, b byte) []byte {
	switch {
	case marked(b):
		return append(out, '\\', b)
	case printable(b):
		return append(out, b)
	}
	return appendHex(append(out, `\x`...), b)
}

// marked tells whether a byte stands behind a backslash in quotes.
func marked(b byte) bool { return b == '"' || b == '\\' }

// Unquote answers the bytes that stand in quotes (P1.6).
func Unquote(s string) (string, api.Errno) {
	if len(s) < 2 || s[0] != '"' || s[len(s)-1] != '"' {
		return "", api.ErrQuote
	}
	s = s[1 : len(s)-1]
	out := make([]byte, 0, len(s))
	for len(s) > 0 {
		b, n := quoted(s)
		if n == 0 {
			return "", api.ErrQuote
		}
		out = append(out, b)
		s = s[n:]
	}
	return string(out), api.OK
}

// quoted answers the byte that stands first in s, which is not empty, and how many bytes it takes there; 0, if Quote writes none so. Digits of a byte that Quote writes otherwise are refused: each row of bytes has one text alone.
func quoted(s string) (byte, int) {
	if s[0] != '\\' {
		if !printable(s[0]) || marked(s[0]) {
			return 0, 0
		}
		return s[0], 1
	}
	if len(s) > 1 && marked(s[1]) {
		return s[1], 2
	}
	rest, ok := strings.CutPrefix(s, `\x`)
	if !ok {
		return 0, 0
	}
	b, ok := hexByte(rest)
	if !ok || printable(b) {
		return 0, 0
	}
	return b, 4
}
