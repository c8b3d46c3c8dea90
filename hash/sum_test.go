package hash

import (
	"testing"

	"diurnal/api"
)

// holds tells where s is not Sip of b: it asks twice, since the first asking
// may not change the Sum.
func holds(t *testing.T, s *Sum, key api.ID, b []byte) {
	t.Helper()
	want := Sip(key, b)
	for range 2 {
		if got := s.Value(); got != want {
			t.Errorf("Value of %d bytes: %#x; want %#x", len(b), got, want)
		}
	}
}

// P2.3: a Sum of no bytes.
func TestSumOfNothing(t *testing.T) {
	s := New(rowKey())
	if got := s.Value(); got != 0x726fdb47dd0e0e31 {
		t.Errorf("Value of nothing: %#x", got)
	}
	s.Add(nil)
	s.Add([]byte{})
	holds(t, s, rowKey(), nil)
}

// P2.3: the chapter's example, cut at each place, and by each key.
func TestSumOfTwoPieces(t *testing.T) {
	for at := range 16 {
		s := New(rowKey())
		s.Add(row(15)[:at])
		s.Add(row(15)[at:])
		if got := s.Value(); got != 0xa129ca6149be45e5 {
			t.Errorf("Value of the chapter's example, cut at %d: %#x", at, got)
		}
	}
	for _, key := range []api.ID{{}, wildKey(), {15: 0x80}} {
		s := New(key)
		s.Add(wild(5))
		s.Add(wild(300)[5:])
		holds(t, s, key, wild(300))
	}
}

// P2.3: pieces of one length each, past a length of 255; Value is asked
// nowhere, or behind each piece.
func TestSumOfEvenPieces(t *testing.T) {
	b := wild(600)
	for step := 1; step <= len(b); step++ {
		asked, unasked := New(wildKey()), New(wildKey())
		for at := 0; at < len(b); at += step {
			end := min(at+step, len(b))
			asked.Add(b[at:end])
			unasked.Add(b[at:end])
			holds(t, asked, wildKey(), b[:end])
		}
		holds(t, unasked, wildKey(), b)
	}
}

// P2.3: pieces of unlike lengths, empty ones between.
func TestSumOfUnevenPieces(t *testing.T) {
	s := New(rowKey())
	b, at := wild(2000), 0
	for i, n := range []int{0, 1, 0, 7, 8, 0, 0, 3, 16, 5, 9, 255, 1, 256, 0, 257, 511, 2, 6, 64, 0, 300} {
		s.Add(b[at : at+n])
		at += n
		if i%3 != 0 {
			holds(t, s, rowKey(), b[:at])
		}
	}
	holds(t, s, rowKey(), b[:at])
}

// P2.3: two Sums side by side have nothing in common, whether their keys are
// like or not.
func TestSumsSideBySide(t *testing.T) {
	one, other, third := New(rowKey()), New(wildKey()), New(rowKey())
	var a, b, c []byte
	for n := range 40 {
		piece := wild(100)[n : 2*n]
		one.Add(piece)
		a = append(a, piece...)
		holds(t, other, wildKey(), b)
		other.Add(row(n))
		b = append(b, row(n)...)
		holds(t, one, rowKey(), a)
		if n%2 == 0 {
			third.Add(piece[n/2:])
			c = append(c, piece[n/2:]...)
		}
		holds(t, third, rowKey(), c)
		holds(t, other, wildKey(), b)
	}
}

// P0.4: a Sum keeps no piece: it may be written into when it has been Added.
func TestSumKeepsNoPiece(t *testing.T) {
	s := New(wildKey())
	b, piece := wild(90), make([]byte, 3)
	for at := 0; at < len(b); at += len(piece) {
		copy(piece, b[at:])
		s.Add(piece)
		clear(piece)
		holds(t, s, wildKey(), b[:at+len(piece)])
	}
}
