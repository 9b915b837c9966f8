package token

import (
	"errors"
	"strconv"

	"tappet/api"
)

var (
	errByte    = errors.New("a byte that begins no token")
	errComment = errors.New("a comment without an end")
	errLong    = errors.New("longer than may be")
	errNumber  = errors.New("a number that cannot be")
	errString  = errors.New("a string that cannot be")
)

// wrong is what is wrong with a text: the reason, and where.
type wrong struct {
	reason error
	at     api.Spot
}

func (w *wrong) Error() string {
	return strconv.Itoa(w.at.Line) + ":" + strconv.Itoa(w.at.Col) + ": " + w.reason.Error()
}

func (w *wrong) Unwrap() error { return w.reason }

// fault tells an error of scanning as plain data; none is the zero one.
func fault(err error) api.Fault {
	var w *wrong
	if !errors.As(err, &w) {
		return api.Fault{}
	}
	return api.Fault{Code: code(err), At: w.at}
}

func code(err error) api.Errno {
	switch {
	case errors.Is(err, errComment):
		return api.ErrComment
	case errors.Is(err, errLong):
		return api.ErrLong
	case errors.Is(err, errNumber):
		return api.ErrNumber
	case errors.Is(err, errString):
		return api.ErrString
	}
	return api.ErrByte
}
