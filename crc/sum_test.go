package crc

import (
	"bytes"
	"hash/crc32"
	"math"
	"testing"
)

// wild answers bytes of which no two neighbours are like, nor two blocks of
// 256.
func wild(n int) []byte {
	b := make([]byte, n)
	for i := range b {
		b[i] = byte(i*0x9d+0xc3) ^ byte(i>>8)
	}
	return b
}

// want is another's reckoning of More.
func want(s uint32, b []byte) uint32 {
	return crc32.Update(s, crc32.MakeTable(crc32.Castagnoli), b)
}

// P3.1: sums that are known: the chapter's example, and those of RFC 3720.
func TestSumOfKnownBytes(t *testing.T) {
	up, down := make([]byte, 32), make([]byte, 32)
	for i := range up {
		up[i], down[i] = byte(i), byte(31-i)
	}
	for _, c := range []struct {
		b    []byte
		want uint32
	}{
		{nil, 0},
		{[]byte{}, 0},
		{[]byte{0}, 0x527d5351},
		{[]byte{0xff}, 0xff000000},
		{[]byte("a"), 0xc1d04330},
		{[]byte("123456789"), 0xe3069283},
		{make([]byte, 32), 0x8a9136aa},
		{bytes.Repeat([]byte{0xff}, 32), 0x62a8ab43},
		{up, 0x46dd794e},
		{down, 0x113fdb5c},
	} {
		if got := Sum(c.b); got != c.want {
			t.Errorf("Sum of %x: %#x; want %#x", c.b, got, c.want)
		}
		if got := More(0, c.b); got != c.want {
			t.Errorf("More of 0 and %x: %#x; want %#x", c.b, got, c.want)
		}
	}
}

// P3.1: each byte, and each length.
func TestSumOfAllBytesAndLengths(t *testing.T) {
	for c := range 256 {
		b := []byte{byte(c)}
		if got := Sum(b); got != want(0, b) {
			t.Errorf("Sum of %x: %#x; want %#x", b, got, want(0, b))
		}
	}
	for n := range 600 {
		if got := Sum(wild(n)); got != want(0, wild(n)) {
			t.Errorf("Sum of %d bytes: %#x; want %#x", n, got, want(0, wild(n)))
		}
	}
	for _, n := range []int{4095, 4096, 32768, 65535, 65536, 65537, 1 << 20} {
		if got := Sum(wild(n)); got != want(0, wild(n)) {
			t.Errorf("Sum of %d bytes: %#x; want %#x", n, got, want(0, wild(n)))
		}
	}
}

// P3.1: noughts count, ahead and behind.
func TestSumCountsNoughts(t *testing.T) {
	seen := map[uint32]bool{}
	for n := range 100 {
		seen[Sum(make([]byte, n))] = true
		seen[Sum(make([]byte, n), []byte{1})] = true
		seen[Sum([]byte{1}, make([]byte, n+1))] = true
	}
	if len(seen) != 300 {
		t.Errorf("300 lists that differ in their noughts have %d sums", len(seen))
	}
}

// P3.1: of no parts, and of parts that have nothing.
func TestSumOfNothing(t *testing.T) {
	none := [][]byte{}
	for _, got := range []uint32{Sum(), Sum(nil), Sum(none...), Sum([]byte{}), Sum(nil, []byte{}, nil), More(0, nil)} {
		if got != 0 {
			t.Errorf("Sum of nothing: %#x", got)
		}
	}
}

// P3.1: wherever it is cut, the parts have the sum of the whole, empty ones
// between them or not.
func TestSumOfParts(t *testing.T) {
	b := wild(40)
	for i := range len(b) + 1 {
		for j := i; j <= len(b); j++ {
			if got := Sum(b[:i], b[i:j], b[j:]); got != want(0, b) {
				t.Errorf("Sum, cut at %d and %d: %#x; want %#x", i, j, got, want(0, b))
			}
			if got := Sum(nil, b[:i], []byte{}, nil, b[i:j], b[j:], nil); got != want(0, b) {
				t.Errorf("Sum, cut at %d and %d, empty parts between: %#x; want %#x", i, j, got, want(0, b))
			}
		}
	}
	if Sum(b[:20], b[20:]) == Sum(b[20:], b[:20]) {
		t.Error("Sum of parts has no order")
	}
}

// P3.1: parts of one length each, up to a byte a part; the same bytes may be a
// part again.
func TestSumOfManyParts(t *testing.T) {
	b := wild(1000)
	for step := 1; step <= len(b); step++ {
		var parts [][]byte
		for at := 0; at < len(b); at += step {
			parts = append(parts, b[at:min(at+step, len(b))])
		}
		if got := Sum(parts...); got != want(0, b) {
			t.Errorf("Sum of parts of %d: %#x; want %#x", step, got, want(0, b))
		}
	}
	if got := Sum(b, b, b); got != want(0, bytes.Repeat(b, 3)) {
		t.Errorf("Sum of a part three times: %#x", got)
	}
}

// P3.1: More goes on from a sum at each place, in one step or in several.
func TestMoreGoesOn(t *testing.T) {
	b := wild(300)
	s := uint32(0)
	for at, c := range b {
		if got := More(Sum(b[:at]), b[at:]); got != want(0, b) {
			t.Errorf("More from %d on: %#x; want %#x", at, got, want(0, b))
		}
		s = More(s, []byte{c})
		if s != want(0, b[:at+1]) {
			t.Errorf("More, byte by byte, up to %d: %#x; want %#x", at, s, want(0, b[:at+1]))
		}
	}
}

// P3.1: More of any number, which some bytes ahead have as their sum; of no
// more bytes it stays.
func TestMoreOfAnySum(t *testing.T) {
	for _, s := range []uint32{0, 1, 0x7fffffff, 0x80000000, 0xe3069283, 0xdeadbeef, math.MaxUint32 - 1, math.MaxUint32} {
		if More(s, nil) != s || More(s, []byte{}) != s {
			t.Errorf("More of %#x and nothing: %#x, %#x", s, More(s, nil), More(s, []byte{}))
		}
		for n := range 40 {
			if got := More(s, wild(n)); got != want(s, wild(n)) {
				t.Errorf("More of %#x and %d bytes: %#x; want %#x", s, n, got, want(s, wild(n)))
			}
		}
	}
}

// P0.4: what is handed in is not changed, and what lies behind its length
// neither read nor written; that holds of the list of parts too.
func TestSumLeavesItsPartsAlone(t *testing.T) {
	for n := range 20 {
		room := wild(40)
		if Sum(room[:n]) != want(0, wild(n)) || More(7, room[:n]) != want(7, wild(n)) {
			t.Errorf("the sum of %d bytes with others behind", n)
		}
		parts := [][]byte{room[:n], room[n:30], room[30:]}
		if Sum(parts[:2]...) != want(0, wild(30)) {
			t.Errorf("Sum of two parts, cut at %d, with another behind", n)
		}
		if len(parts[0]) != n || len(parts[1]) != 30-n || len(parts[2]) != 10 || !bytes.Equal(room, wild(40)) {
			t.Errorf("the parts, cut at %d, are changed", n)
		}
	}
}
