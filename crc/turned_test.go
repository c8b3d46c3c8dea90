package crc

import (
	"bytes"
	"testing"

	"diurnal/api"
)

// turned answers b with those bits turned that pattern has from the bit at on,
// bits of a byte from the lowest on.
func turned(b []byte, at int, pattern uint64) []byte {
	out := bytes.Clone(b)
	for ; pattern != 0; pattern >>= 1 {
		out[at/8] ^= byte(pattern&1) << (at % 8)
		at++
	}
	return out
}

// noticed tells where Open does not notice the pattern at one of the places of
// b where all of its width bits have room.
func noticed(t *testing.T, b []byte, pattern uint64, width int) {
	t.Helper()
	for at := 0; at+width <= 8*len(b); at++ {
		if x, code := Open(turned(b, at, pattern)); code != api.ErrSum || len(x) > 0 {
			t.Fatalf("Open of %d bytes with %#x turned at bit %d: %x, %d", len(b), pattern, at, x, code)
		}
	}
}

// P3.3: each one bit, each two, and each row of up to 32.
func TestTurnedBitsAreNoticed(t *testing.T) {
	for n := range 40 {
		b := Seal(wild(n))
		for last := range 32 {
			noticed(t, b, 1|1<<last, last+1)
			noticed(t, b, 1<<(last+1)-1, last+1)
		}
	}
}

// P3.3: all that may be turned within a few bits.
func TestTurnedFewBitsAreNoticed(t *testing.T) {
	for _, n := range []int{0, 1, 2, 5, 9} {
		b := Seal(wild(n))
		for pattern := uint64(1); pattern < 1<<10; pattern++ {
			noticed(t, b, pattern, 10)
		}
	}
}

// P3.3: many that take up 32 neighbouring bits, or nearly so many.
func TestTurnedManyBitsAreNoticed(t *testing.T) {
	for _, n := range []int{0, 1, 3, 4, 5, 8, 20} {
		b := Seal(wild(n))
		for i := range uint32(1000) {
			pattern := uint64(i*0x9e3779b1 ^ i>>3)
			noticed(t, b, pattern|1, 32)
			noticed(t, b, pattern|1<<31, 32)
			noticed(t, b, pattern>>3|1, 29)
		}
	}
}

// P3.3: what is turned within the last bytes and their sum, or within the sum
// alone, is noticed as well: the sum itself moved over the border, too.
func TestTurnedBordersAreNoticed(t *testing.T) {
	for n := range 20 {
		b := Seal(wild(n))
		s := uint64(Sum(wild(n)))
		for _, pattern := range []uint64{poly, poly ^ 1, 1<<32 - 1, 0xff, 0xff00, 0xff0000, 0xff000000, s | 1} {
			noticed(t, b, pattern, 32)
		}
	}
}

// P3.2, P3.3: 33 neighbouring bits are too many: the polynomial itself, turned
// anywhere, leaves the sum right, and what opens is what stands there.
func TestTurnedPolynomialOpens(t *testing.T) {
	const whole = poly<<1 | 1
	for n := 1; n < 20; n++ {
		b := Seal(wild(n))
		for at := 0; at+33 <= 8*len(b); at++ {
			other := turned(b, at, whole)
			opened(t, other, other[:n])
		}
	}
}
