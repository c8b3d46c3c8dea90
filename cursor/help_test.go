package cursor

import (
	"fmt"
	"math"
	"regexp"
	"strings"

	"diurnal/api"
)

// noughts are the Hex of an ID of zeros.
var noughts = strings.Repeat("0", 32)

// numbers are such of each count of digits, about the ends of each.
func numbers() []uint64 {
	l := []uint64{0, 1, 9, 10, 15, math.MaxUint64, math.MaxUint64 - 1, math.MaxInt64, 0x0123456789abcdef, 0xfedcba9876543210}
	for i := range 64 {
		l = append(l, 1<<i, 1<<i-1, 1<<i+1, 0x0123456789abcdef>>i, 0xfedcba9876543210>>i)
	}
	return l
}

// ids are such of which each byte stands alone, and of all bytes.
func ids() []api.ID {
	l := []api.ID{{}}
	for i := range 16 {
		for _, c := range []byte{0x01, 0x0f, 0x10, 0x80, 0xa9, 0xff} {
			var id api.ID
			id[i] = c
			l = append(l, id)
		}
	}
	for i := range 256 {
		var id api.ID
		for j := range id {
			id[j] = byte(i + 37*j)
		}
		l = append(l, id)
	}
	return l
}

// some answers a cursor of which each part is another one.
func some() Cursor {
	return Cursor{Seq: api.ID{0x01, 0xab, 15: 0xf0}, N: 0x10, Boot: api.ID{0xfe, 15: 0x09}, Mono: 0xa, Real: 0xff0, Xor: math.MaxUint64}
}

// cursors are thrown ones.
func cursors(n int) []Cursor {
	seed := uint64(1)
	next := func() uint64 {
		seed = seed*6364136223846793005 + 1442695040888963407
		return seed ^ seed>>29
	}
	number := func() uint64 { return next() >> (next() % 65) }
	var l []Cursor
	for range n {
		c := Cursor{N: number(), Mono: number(), Real: number(), Xor: number()}
		for i := range c.Seq {
			c.Seq[i], c.Boot[i] = byte(number()), byte(number())
		}
		l = append(l, c)
	}
	return l
}

// plainShow is Show by the chapter's words.
func plainShow(c Cursor) string {
	return fmt.Sprintf("s=%x;i=%x;b=%x;m=%x;t=%x;x=%x", c.Seq[:], c.N, c.Boot[:], c.Mono, c.Real, c.Xor)
}

// anID and aNumber are what Show may answer of one, by the chapter's words.
const (
	anID    = "[0-9a-f]{32}"
	aNumber = "(0|[1-9a-f][0-9a-f]{0,15})"
)

// shown is what texts Show may answer, by the chapter's words.
var shown = regexp.MustCompile(`\As=` + anID + `;i=` + aNumber + `;b=` + anID + `;m=` + aNumber + `;t=` + aNumber + `;x=` + aNumber + `\z`)

// near answers the texts in which one byte of s is another one, is not there or
// is there twice, or in which one stands between two others.
func near(s string, bytes []byte) []string {
	var l []string
	for i := range len(s) + 1 {
		for _, c := range bytes {
			l = append(l, s[:i]+string([]byte{c})+s[i:])
			if i < len(s) {
				l = append(l, s[:i]+string([]byte{c})+s[i+1:])
			}
		}
		l = append(l, s[:i], s[i:])
		if i < len(s) {
			l = append(l, s[:i]+s[i+1:], s[:i]+s[i:i+1]+s[i:])
		}
	}
	return l
}

// allBytes answers each byte once.
func allBytes() []byte {
	var l []byte
	for i := range 256 {
		l = append(l, byte(i))
	}
	return l
}
