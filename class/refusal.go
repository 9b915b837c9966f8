package class

import (
	"errors"

	"tappet/api"
	"tappet/octet"
)

// refusal is why a configuration may not be, as an error.
type refusal struct{ verdict api.Verdict }

func (r *refusal) Error() string {
	v := r.verdict
	return v.Kind + " " + octet.Decimal(uint64(v.ID)) + ": error " + octet.Decimal(uint64(v.Code))
}

func refuse(code api.Errno, kind string, id int) error {
	return &refusal{api.Verdict{Code: code, Kind: kind, ID: id}}
}

// verdict tells an error of looking as plain data; none is the zero one.
func verdict(err error) api.Verdict {
	var r *refusal
	if !errors.As(err, &r) {
		return api.Verdict{}
	}
	return r.verdict
}
