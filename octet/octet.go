// Package octet is layer 1: numbers and texts as bytes and back, a check sum, digits, quotes: see shared/doc/01-octet.md.
package octet

import "tappet/api"

const (
	firstSum = 0xffff // the check sum's register ahead of the first byte
	sumBits  = 0x1021 // laid over the register for each bit that fell out
)

// Plain tells whether a string is a text (P1.1).
func Plain(s string) bool {
	if len(s) > api.MaxString {
		return false
	}
	// Bytes are asked, not runes: a text has none above 126.
	for i := range len(s) {
		if !printable(s[i]) {
			return false
		}
	}
	return true
}

func printable(b byte) bool { return b >= 32 && b <= 126 }

// Number answers n bytes of a number, the lowest first (P1.2).
func Number(v uint64, n int) ([]byte, api.Errno) {
	if !width(n) || !fits(v, n) {
		return nil, api.ErrArg
	}
	out := make([]byte, n)
	for i := range out {
		out[i] = byte(v)
		v >>= 8
	}
	return out, api.OK
}

// width tells whether a number may have n bytes.
func width(n int) bool { return n >= 1 && n <= 8 }

// fits relies on a shift by 64 bits leaving 0: every number fits into 8 bytes.
func fits(v uint64, n int) bool { return v>>(8*n) == 0 }

// Text answers a text with its length ahead (P1.2).
func Text(s string) ([]byte, api.Errno) {
	if !Plain(s) {
		return nil, api.ErrText
	}
	out := make([]byte, 0, 1+len(s))
	out = append(out, byte(len(s)))
	return append(out, s...), api.OK
}

// Crc answers the check sum of all bytes of all parts, one behind the other (P1.3).
func Crc(parts ...[]byte) uint16 {
	sum := uint16(firstSum)
	for _, part := range parts {
		for _, b := range part {
			sum = sumByte(sum, b)
		}
	}
	return sum
}

func sumByte(sum uint16, b byte) uint16 {
	sum ^= uint16(b) << 8
	for range 8 {
		out := sum >> 15
		sum <<= 1
		if out == 1 {
			sum ^= sumBits
		}
	}
	return sum
}
