package orti

import (
	"strings"

	"tappet/api"
	"tappet/octet"
)

// lines is what is left of a text that is read line by line.
type lines struct{ rest string }

// between takes a line, and answers what stands in it between these two.
func (l *lines) between(ahead, behind string) (string, bool) {
	line, rest, ended := strings.Cut(l.rest, "\n")
	l.rest = rest
	line, begun := strings.CutPrefix(line, ahead)
	line, closed := strings.CutSuffix(line, behind)
	return line, ended && begun && closed
}

// are takes these lines, if they are the next ones.
func (l *lines) are(want string) bool {
	rest, ok := strings.CutPrefix(l.rest, want)
	l.rest = rest
	return ok
}

// head takes the lines ahead of the first object. The tasks that are listed there stand in lines of their own, too.
func (l *lines) head() bool {
	if !l.are(headAbove) {
		return false
	}
	_, ok := l.between("", "")
	return ok && l.are(headBelow)
}

// take takes the lines of one object.
func (f form) take(l *lines) (name string, values []string, ok bool) {
	var v string
	if name, ok = l.between(f.word+" ", opens); !ok {
		goto none
	}
	for _, attr := range f.attrs {
		if v, ok = l.between(attrOpens(attr), closes); !ok {
			goto none
		}
		values = append(values, v)
	}
	if _, ok = l.between(ends, ""); !ok {
		goto none
	}
	return name, values, true
none:
	return "", nil, false
}

// takeAll takes the lines of all things of a kind, as long as there is one more.
func takeAll[T any](l *lines, k kind[T]) ([]T, bool) {
	var things []T
	for strings.HasPrefix(l.rest, k.word+" ") {
		name, values, ok := k.take(l)
		if !ok {
			return nil, false
		}
		t, ok := k.thing(name, values)
		if !ok {
			return nil, false
		}
		things = append(things, t)
	}
	return things, true
}

// number reads a ceiling, a category or a priority.
func number(s string) (int, bool) {
	if s == "-1" {
		return -1, true
	}
	v, e := octet.Digits(s, api.MaxIsr)
	return int(v), e == api.OK
}
