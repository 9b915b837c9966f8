package token

import (
	"strconv"
	"strings"

	"tappet/api"
)

// scanner goes through a text; it counts lines as it goes, since to count them anew for each token would take a time of the text's length squared.
type scanner struct {
	text  string
	off   int // of the next byte
	line  int
	begin int // of the line
}

func scan(text string) ([]api.Token, error) {
	s := &scanner{text: text, line: 1}
	if len(text) > api.MaxOil {
		return nil, s.wrong(errLong, 0)
	}
	var l []api.Token
	for {
		t, err := s.next()
		if err != nil {
			return nil, err
		}
		l = append(l, t)
		if t.Kind == api.TokenEnd {
			return l, nil
		}
	}
}

func (s *scanner) rest() string { return s.text[s.off:] }

// spot is that of the byte behind n more bytes, none of which ends a line.
func (s *scanner) spot(n int) api.Spot {
	off := s.off + n
	return api.Spot{Off: off, Line: s.line, Col: off - s.begin + 1}
}

func (s *scanner) wrong(reason error, n int) error {
	return &wrong{reason: reason, at: s.spot(n)}
}

// pass goes behind n more bytes.
func (s *scanner) pass(n int) {
	for range n {
		s.off++
		if s.text[s.off-1] == '\n' {
			s.line++
			s.begin = s.off
		}
	}
}

// take goes behind a token of n bytes, and gives it its place.
func (s *scanner) take(t api.Token, n int) api.Token {
	t.At = s.spot(0)
	s.pass(n)
	return t
}

// next takes the next token.
func (s *scanner) next() (api.Token, error) {
begin:
	s.pass(blanks(s.rest()))
	if s.comes("//") || s.comes("/*") {
		n, ok := commentLength(s.rest())
		if !ok {
			return api.Token{}, s.wrong(errComment, 0)
		}
		s.pass(n)
		goto begin
	}
	if s.rest() == "" {
		return s.take(api.Token{Kind: api.TokenEnd}, 0), nil
	}
	switch b := s.text[s.off]; {
	case letter(b):
		return s.name()
	case digit(b):
		return s.number()
	case b == '"':
		return s.quoted()
	}
	return s.mark()
}

func (s *scanner) comes(with string) bool { return strings.HasPrefix(s.rest(), with) }

// blanks tells how many blanks stand first in s.
func blanks(s string) int { return len(s) - len(strings.TrimLeft(s, " \t\n\r")) }

// commentLength tells how many bytes the comment has with which s begins, and false if it does not end.
func commentLength(s string) (int, bool) {
	if s[1] == '/' {
		if n := strings.IndexByte(s, '\n'); n >= 0 {
			return n, true
		}
		return len(s), true
	}
	// The star that opened the comment does not close it.
	n := strings.Index(s[2:], "*/")
	if n < 0 {
		return 0, false
	}
	return 2 + n + 2, true
}

func (s *scanner) name() (api.Token, error) {
	n := wordLength(s.rest())
	if n > api.MaxName {
		return api.Token{}, s.wrong(errLong, 0)
	}
	return s.take(api.Token{Kind: api.TokenName, Text: strings.Clone(s.rest()[:n])}, n), nil
}

func (s *scanner) number() (api.Token, error) {
	n := wordLength(s.rest())
	v, hex, err := numberOf(s.rest()[:n])
	if err != nil {
		return api.Token{}, s.wrong(err, 0)
	}
	return s.take(api.Token{Kind: api.TokenNumber, Value: v, Hex: hex}, n), nil
}

// numberOf answers what a number is worth, and whether it is written in hex digits.
func numberOf(word string) (uint32, bool, error) {
	digits, base := word, 10
	hex := strings.HasPrefix(word, "0x") || strings.HasPrefix(word, "0X")
	if hex {
		digits, base = word[2:], 16
	} else if word[0] == '0' && len(word) > 1 {
		return 0, false, errNumber
	}
	// With a base that is told, ParseUint takes digits of it alone: no sign, no mark of a base, no '_'.
	v, err := strconv.ParseUint(digits, base, 32)
	if err != nil {
		return 0, false, errNumber
	}
	return uint32(v), hex, nil
}

func (s *scanner) quoted() (api.Token, error) {
	var said []byte
	behind := false // the rune stands behind a backslash that is not said itself
	for i, r := range s.rest()[1:] {
		switch {
		case behind && !escaped(r):
			return api.Token{}, s.wrong(errString, i)
		case !sayable(r):
			return api.Token{}, s.wrong(errString, 1+i)
		case r == '\\' && !behind:
			behind = true
			continue
		case r == '"' && !behind:
			if len(said) > api.MaxString {
				return api.Token{}, s.wrong(errLong, 0)
			}
			return s.take(api.Token{Kind: api.TokenString, Text: string(said)}, 1+i+1), nil
		}
		said = append(said, byte(r))
		behind = false
	}
	if behind {
		return api.Token{}, s.wrong(errString, len(s.rest())-1)
	}
	return api.Token{}, s.wrong(errString, 0)
}

func (s *scanner) mark() (api.Token, error) {
	for _, m := range marks {
		if m.sign == s.text[s.off] {
			return s.take(api.Token{Kind: m.kind}, 1), nil
		}
	}
	return api.Token{}, s.wrong(errByte, 0)
}
