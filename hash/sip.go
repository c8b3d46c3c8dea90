package hash

import (
	"math/bits"

	"diurnal/api"
	"diurnal/le"
)

// Sip answers SipHash-2-4 of b by the key.
func Sip(key api.ID, b []byte) uint64 {
	s := New(key)
	s.Add(b)
	return s.Value()
}

// Sum is Sip piece by piece.
type Sum struct {
	four quad
	left uint64 // the bytes behind the last whole eight, the lowest first
	size uint8  // of all bytes: Sip asks for its lowest byte alone, and so for left's count
}

// New answers a Sum of no bytes.
func New(key api.ID) *Sum {
	k, _ := le.Get(key[:], 0, 8)
	l, _ := le.Get(key[:], 8, 8)
	return &Sum{four: quad{
		p: k ^ 0x736f6d6570736575,
		q: l ^ 0x646f72616e646f6d,
		r: k ^ 0x6c7967656e657261,
		s: l ^ 0x7465646279746573,
	}}
}

// Add takes b in, behind what was Added.
func (s *Sum) Add(b []byte) {
	for _, c := range b {
		s.left |= uint64(c) << (8 * (s.size % 8))
		s.size++
		if s.size%8 == 0 {
			s.four = s.four.plus(s.left)
			s.left = 0
		}
	}
}

// Value answers Sip of all that was Added, and leaves the Sum as it is.
func (s *Sum) Value() uint64 {
	f := s.four.plus(s.left | uint64(s.size)<<56)
	f.r ^= 0xff
	for range 4 {
		f = f.round()
	}
	return f.p ^ f.q ^ f.r ^ f.s
}

// quad is what Sip reckons with; all of it goes round at 2^64.
type quad struct {
	p, q, r, s uint64
}

// plus answers f with eight more bytes taken in, as the number m.
func (f quad) plus(m uint64) quad {
	f.s ^= m
	f = f.round().round()
	f.p ^= m
	return f
}

func (f quad) round() quad {
	p, q, r, s := f.p, f.q, f.r, f.s
	p += q
	q = bits.RotateLeft64(q, 13) ^ p
	p = bits.RotateLeft64(p, 32)
	r += s
	s = bits.RotateLeft64(s, 16) ^ r
	p += s
	s = bits.RotateLeft64(s, 21) ^ p
	r += q
	q = bits.RotateLeft64(q, 17) ^ r
	r = bits.RotateLeft64(r, 32)
	return quad{p, q, r, s}
}
