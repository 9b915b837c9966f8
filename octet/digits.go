package octet

import (
	"strconv"

	"tappet/api"
)

// digits are all digits, each at the place of its value: the decimal ones are the first ten.
const digits = "0123456789abcdef"

// value answers what a digit is worth below a base, and false of a byte that is no such digit.
func value(b byte, base int) (int, bool) {
	for i, d := range digits[:base] {
		if d == rune(b) {
			return i, true
		}
	}
	return 0, false
}

// Hex answers bytes as digits, two a byte (P1.4).
func Hex(b []byte) string {
	out := make([]byte, 0, 2*len(b))
	for _, x := range b {
		out = appendHex(out, x)
	}
	return string(out)
}

func appendHex(out []byte, b byte) []byte {
	return append(out, digits[b>>4], digits[b&15])
}

// Unhex answers the bytes that stand as digits (P1.4).
func Unhex(s string) ([]byte, api.Errno) {
	out := make([]byte, 0, len(s)/2)
	for ; len(s) > 0; s = s[2:] {
		b, ok := hexByte(s)
		if !ok {
			return nil, api.ErrHex
		}
		out = append(out, b)
	}
	return out, api.OK
}

// hexByte reads the first two bytes of s as the digits of one byte; a digit that stands alone is none.
func hexByte(s string) (byte, bool) {
	if len(s) < 2 {
		return 0, false
	}
	high, ok := value(s[0], 16)
	low, also := value(s[1], 16)
	if !ok || !also {
		return 0, false
	}
	return byte(high<<4 | low), true
}

// Decimal answers a number in decimal (P1.5).
func Decimal(v uint64) string { return strconv.FormatUint(v, 10) }

// Digits answers the number that stands in decimal, at most so great (P1.5).
func Digits(s string, most uint64) (uint64, api.Errno) {
	if s == "" || len(s) > 1 && s[0] == '0' {
		return 0, api.ErrDigits
	}
	v := uint64(0)
	for i := range len(s) {
		d, ok := value(s[i], 10)
		if !ok || !roomFor(v, uint64(d), most) {
			return 0, api.ErrDigits
		}
		v = 10*v + uint64(d)
	}
	return v, api.OK
}

// roomFor tells whether v with the digit d behind it is at most most; it is asked this way round so that nothing wraps.
func roomFor(v, d, most uint64) bool { return d <= most && v <= (most-d)/10 }
