// Package le: numbers in bytes: see ../shared/doc/01-le.md.
package le

import "math"

// unit is what Align's answers are multiples of.
const unit = 8

// Get answers the number in the n bytes of b from at on, the lowest first. It
// answers false where n is none of 1, 2, 4, 8, or where they are not all in b.
func Get(b []byte, at, n int) (uint64, bool) {
	if !within(b, at, n) {
		return 0, false
	}
	v := uint64(0)
	for i := range n {
		v |= uint64(b[at+i]) << (8 * i)
	}
	return v, true
}

// Put answers a copy of b with the lowest n bytes of v from at on, and false
// where Get does.
func Put(b []byte, at, n int, v uint64) ([]byte, bool) {
	if !within(b, at, n) {
		return nil, false
	}
	out := extended(b, 0)
	set(out[at:at+n], v)
	return out, true
}

// Add answers a copy of b with the lowest n bytes of v behind it; where n is
// none of 1, 2, 4, 8, the copy alone.
func Add(b []byte, n int, v uint64) []byte {
	if !isWidth(n) {
		return extended(b, 0)
	}
	out := extended(b, n)
	set(out[len(b):], v)
	return out
}

// Align answers the least multiple of 8 that is not below v, and false where
// that is above 2^64 - 1.
func Align(v uint64) (uint64, bool) {
	if v > math.MaxUint64-(unit-1) {
		return 0, false
	}
	return (v + unit - 1) / unit * unit, true
}

// Zero tells whether all bytes of b are 0: of no bytes, they are.
func Zero(b []byte) bool {
	for _, c := range b {
		if c != 0 {
			return false
		}
	}
	return true
}

func isWidth(n int) bool {
	return n == 1 || n == 2 || n == 4 || n == 8
}

// within tells whether b has a number of n bytes at the place at. It takes n
// from b's length: at + n could wrap round.
func within(b []byte, at, n int) bool {
	return isWidth(n) && at >= 0 && at <= len(b)-n
}

// extended answers b in new memory, with n bytes of 0 behind it.
func extended(b []byte, n int) []byte {
	out := make([]byte, len(b)+n)
	copy(out, b)
	return out
}

// set fills part, the lowest byte of v first.
func set(part []byte, v uint64) {
	for i := range part {
		part[i] = byte(v >> (8 * i))
	}
}
