package tree_test

import (
	"regexp"
	"slices"
	"strings"

	"tappet/api"
)

// A second reading of the chapter's grammar, to hold Parse against: rows of tokens are texts of one letter a token, and the grammar, whose depth is bounded, is a regular expression of them.
//
// The letters: V and C, the names OIL_VERSION and CPU; n, another name; d, a number; s, a string; $, the text's end; the marks themselves.

// lang is a language: what its texts are, and what their beginnings are (the empty one and the whole ones among them).
type lang struct{ whole, begin string }

func group(s string) string { return "(?:" + s + ")" }

// one is the language of one token, of any of these letters.
func one(letters string) lang {
	l := "[" + letters + "]"
	return lang{l, l + "?"}
}

func row(l ...lang) lang {
	if len(l) == 1 {
		return l[0]
	}
	rest := row(l[1:]...)
	return lang{l[0].whole + rest.whole, group(l[0].begin + "|" + l[0].whole + rest.begin)}
}

func many(l lang) lang { return lang{group(l.whole) + "*", group(l.whole) + "*" + l.begin} }

func maybe(l lang) lang { return lang{group(l.whole) + "?", l.begin} }

func names() lang  { return one("VCn") }
func values() lang { return one("VCnds") }
func note() lang   { return maybe(row(one(":"), one("s"))) }

// attr is an attribute at a depth, with braces that open attributes of a depth of at most most.
func attr(depth, most int) lang {
	if depth == most {
		return row(names(), one("="), values(), note(), one(";"))
	}
	inner := maybe(row(one("{"), many(attr(depth+1, most)), one("}")))
	return row(names(), one("="), values(), inner, note(), one(";"))
}

func text(most int) lang {
	object := row(names(), names(), one("{"), many(attr(0, most)), one("}"), note(), one(";"))
	head := row(one("V"), one("="), one("s"), one(";"), one("C"), names(), one("{"))
	return row(head, many(object), one("}"), note(), one(";"), one("$"))
}

// reading tells of rows of tokens whether they begin a text of the grammar.
type reading struct {
	within *regexp.Regexp // the depth
	deeper *regexp.Regexp // by one more
}

func newReading() *reading {
	begins := func(most int) *regexp.Regexp { return regexp.MustCompile("^" + group(text(most).begin) + "$") }
	return &reading{within: begins(api.MaxDepth), deeper: begins(api.MaxDepth + 1)}
}

func (r *reading) begins(letters string) bool { return r.within.MatchString(letters) }

// fault is what Parse must answer of a row of tokens: which of them is at fault (-1: none), and by which error. A row without a $ at its end is a text that ends there.
func (r *reading) fault(letters string) (int, api.Errno) {
	letters = strings.TrimSuffix(letters, "$") + "$"
	for i := range letters {
		switch ahead := letters[:i+1]; {
		case r.begins(ahead):
		case letters[i] == '{' && r.deeper.MatchString(ahead):
			return i, api.ErrDeep
		default:
			return i, api.ErrExpect
		}
	}
	return -1, api.OK
}

// spelt writes a row of tokens as a text, and tells where each of them stands in it.
func spelt(letters string) (string, []int) {
	var text strings.Builder
	var offs []int
	for i, x := range strings.TrimSuffix(letters, "$") {
		text.WriteString([]string{" ", "\n", "/*\n*/", "//\n "}[i%4])
		offs = append(offs, text.Len())
		switch x {
		case 'V':
			text.WriteString("OIL_VERSION")
		case 'C':
			text.WriteString("CPU")
		case 'n':
			text.WriteString([]string{"a", "TRUE", "CPU_", "OIL_VERSIO"}[i%4])
		case 'd':
			text.WriteString([]string{"0", "0x1F", "7"}[i%3])
		case 's':
			text.WriteString([]string{`""`, `"OIL_VERSION"`, `"CPU"`, `"a"`}[i%4])
		default:
			text.WriteRune(x)
		}
	}
	return text.String(), append(slices.Clip(offs), text.Len())
}
