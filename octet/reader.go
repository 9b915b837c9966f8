package octet

import "tappet/api"

// Reader reads bytes from the first on.
type Reader struct {
	made bool // NewReader gave it: one of no bytes is a reader, too
	rest []byte
}

// NewReader answers a reader ahead of the first byte (P1.7).
func NewReader(b []byte) *Reader {
	// A copy, since what is handed in is the caller's to change.
	return &Reader{made: true, rest: append([]byte(nil), b...)}
}

func (r *Reader) none() bool { return r == nil || !r.made }

// Number reads n bytes as a number, the first the lowest (P1.7).
func (r *Reader) Number(n int) (uint64, api.Errno) {
	if r.none() {
		return 0, api.ErrNil
	}
	if !width(n) {
		return 0, api.ErrArg
	}
	if n > len(r.rest) {
		return 0, api.ErrShort
	}
	v := uint64(0)
	for i := range n {
		v |= uint64(r.rest[i]) << (8 * i)
	}
	r.rest = r.rest[n:]
	return v, api.OK
}

// Bytes reads n bytes (P1.7).
func (r *Reader) Bytes(n int) ([]byte, api.Errno) {
	if r.none() {
		return nil, api.ErrNil
	}
	if n < 0 {
		return nil, api.ErrArg
	}
	if n > len(r.rest) {
		return nil, api.ErrShort
	}
	out := append([]byte(nil), r.rest[:n]...)
	r.rest = r.rest[n:]
	return out, api.OK
}

// Text reads a text with its length ahead (P1.7).
func (r *Reader) Text() (string, api.Errno) {
	if r.none() {
		return "", api.ErrNil
	}
	if len(r.rest) == 0 {
		return "", api.ErrShort
	}
	end := 1 + int(r.rest[0])
	if end > len(r.rest) {
		return "", api.ErrShort
	}
	s := string(r.rest[1:end])
	if !Plain(s) {
		return "", api.ErrText
	}
	r.rest = r.rest[end:]
	return s, api.OK
}

// Left tells how many bytes are left (P1.7).
func (r *Reader) Left() int {
	if r.none() {
		return 0
	}
	return len(r.rest)
}

// End asks that none is left (P1.7).
func (r *Reader) End() api.Errno {
	if r.none() {
		return api.ErrNil
	}
	if len(r.rest) > 0 {
		return api.ErrTail
	}
	return api.OK
}
