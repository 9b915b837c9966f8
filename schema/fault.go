package schema

import (
	"errors"
	"strconv"

	"tappet/api"
)

var (
	errObject   = errors.New("no such kind of object")
	errAttr     = errors.New("no such attribute here")
	errKind     = errors.New("a value of another kind")
	errRange    = errors.New("a number out of its range")
	errMissing  = errors.New("an attribute that must be here is not")
	errRepeated = errors.New("an attribute that may stand once stands twice")
	errBraces   = errors.New("braces where there may be none, or none where there must be some")
)

// misread is where a tree is at fault, which name it is about, and why.
type misread struct {
	reason error
	at     api.Spot
	name   string
}

func (m *misread) Error() string {
	return strconv.Itoa(m.at.Line) + ":" + strconv.Itoa(m.at.Col) + ": " + m.name + ": " + m.reason.Error()
}

func (m *misread) Unwrap() error { return m.reason }

// fault tells an error of reading as plain data; none is the zero one.
func fault(err error) api.Fault {
	var m *misread
	if !errors.As(err, &m) {
		return api.Fault{}
	}
	return api.Fault{Code: code(err), At: m.at, Name: m.name}
}

func code(err error) api.Errno {
	switch {
	case errors.Is(err, errObject):
		return api.ErrObject
	case errors.Is(err, errAttr):
		return api.ErrAttr
	case errors.Is(err, errKind):
		return api.ErrKind
	case errors.Is(err, errRange):
		return api.ErrRange
	case errors.Is(err, errMissing):
		return api.ErrMissing
	case errors.Is(err, errRepeated):
		return api.ErrRepeated
	}
	return api.ErrBraces
}
