package printer

import (
	"errors"
	"strconv"

	"tappet/api"
)

var (
	errName   = errors.New("a name that is none")
	errString = errors.New("a string that cannot be")
	errValue  = errors.New("a value that is none")
	errNote   = errors.New("a description where none is told")
	errParams = errors.New("parameters without braces")
	errDeep   = errors.New("braces that are too deep")
	errLong   = errors.New("a text that is too long")
)

// misfit is where a tree is at fault, and why.
type misfit struct {
	reason error
	steps  []int
}

func (m *misfit) Error() string {
	s := m.reason.Error()
	for _, i := range m.steps {
		s += " / " + strconv.Itoa(i)
	}
	return s
}

func (m *misfit) Unwrap() error { return m.reason }

// flaw tells an error of checking or writing as plain data; none is the zero one.
func flaw(err error) api.Flaw {
	var m *misfit
	if !errors.As(err, &m) {
		return api.Flaw{}
	}
	if errors.Is(err, errLong) {
		return api.Flaw{Code: api.ErrLong}
	}
	return api.Flaw{Code: api.ErrTree, Steps: m.steps}
}
