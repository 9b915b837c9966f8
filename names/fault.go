package names

import (
	"errors"
	"strconv"

	"tappet/api"
)

var (
	errSheet    = errors.New("a sheet that cannot be")
	errOs       = errors.New("not just one object OS")
	errDouble   = errors.New("an object of this kind with this name stood ahead")
	errStandard = errors.New("the standard status, which the kernel has not")
	errUnknown  = errors.New("no such object")
	errAgain    = errors.New("named already")
	errMask     = errors.New("no bit is left for this event")
)

// unresolved is where a sheet is at fault, which name it is about, and why.
type unresolved struct {
	reason error
	at     api.Spot
	name   string
}

func (u *unresolved) Error() string {
	return strconv.Itoa(u.at.Line) + ":" + strconv.Itoa(u.at.Col) + ": " + u.name + ": " + u.reason.Error()
}

func (u *unresolved) Unwrap() error { return u.reason }

// fault tells an error of resolving as plain data; none is the zero one.
func fault(err error) api.Fault {
	var u *unresolved
	if !errors.As(err, &u) {
		return api.Fault{}
	}
	return api.Fault{Code: code(err), At: u.at, Name: u.name}
}

func code(err error) api.Errno {
	switch {
	case errors.Is(err, errOs):
		return api.ErrOs
	case errors.Is(err, errDouble):
		return api.ErrDouble
	case errors.Is(err, errStandard):
		return api.ErrStandard
	case errors.Is(err, errUnknown):
		return api.ErrUnknown
	case errors.Is(err, errAgain):
		return api.ErrAgain
	case errors.Is(err, errMask):
		return api.ErrMask
	}
	return api.ErrArg
}
