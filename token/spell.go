package token

import (
	"strconv"
	"strings"

	"tappet/api"
)

// Spell writes a token (P2.6).
func Spell(t api.Token) (string, api.Errno) {
	if !fields(t) {
		return "", api.ErrByte
	}
	switch t.Kind {
	case api.TokenEnd:
		return "", api.OK
	case api.TokenName:
		return spellName(t.Text)
	case api.TokenNumber:
		return spellNumber(t.Value, t.Hex), api.OK
	case api.TokenString:
		return spellString(t.Text)
	}
	return spellMark(t.Kind)
}

// fields tells whether nothing stands in a token that its kind does not have.
func fields(t api.Token) bool {
	if t.Kind != api.TokenNumber && (t.Value != 0 || t.Hex) {
		return false
	}
	return t.Kind == api.TokenName || t.Kind == api.TokenString || t.Text == ""
}

func spellName(text string) (string, api.Errno) {
	if text == "" || len(text) > api.MaxName || !letter(text[0]) || wordLength(text) < len(text) {
		return "", api.ErrByte
	}
	return strings.Clone(text), api.OK
}

func spellNumber(v uint32, hex bool) string {
	if hex {
		return "0x" + strings.ToUpper(strconv.FormatUint(uint64(v), 16))
	}
	return strconv.FormatUint(uint64(v), 10)
}

func spellString(text string) (string, api.Errno) {
	if len(text) > api.MaxString {
		return "", api.ErrByte
	}
	out := []byte{'"'}
	for _, r := range text {
		if !sayable(r) {
			return "", api.ErrByte
		}
		if escaped(r) {
			out = append(out, '\\')
		}
		out = append(out, byte(r))
	}
	return string(append(out, '"')), api.OK
}

func spellMark(kind api.TokenKind) (string, api.Errno) {
	for _, m := range marks {
		if m.kind == kind {
			return string(rune(m.sign)), api.OK
		}
	}
	return "", api.ErrByte
}

// Join writes tokens, a blank between each two (P2.7).
func Join(l []api.Token) (string, api.Errno) {
	var out []byte
	for i, t := range l {
		if t.Kind == api.TokenEnd && i < len(l)-1 {
			return "", api.ErrByte
		}
		s, e := Spell(t)
		if e != api.OK {
			return "", e
		}
		if i > 0 {
			out = append(out, ' ')
		}
		out = append(out, s...)
	}
	return string(out), api.OK
}
