package entry

import (
	"bytes"
	"math"
	"slices"
	"testing"

	"diurnal/api"
	"diurnal/hash"
)

// P8.1: an entry's object by its bytes, written out.
func TestPutByItsBytes(t *testing.T) {
	want := "\x03\x00\x00\x00\x00\x00\x00\x00\x60\x00\x00\x00\x00\x00\x00\x00" +
		"\x11\x12\x13\x14\x15\x16\x17\x18\x21\x22\x23\x24\x25\x26\x27\x28" +
		"\x31\x32\x33\x34\x35\x36\x37\x38ABCDEFGHIJKLMNOP" +
		"\x61\x62\x63\x64\x65\x66\x67\x68" +
		"\x01\x02\x00\x00\x00\x00\x00\x00\x03\x04\x05\x06\x07\x08\x09\x0a" +
		"\x02\x02\x00\x00\x00\x00\x00\x00\x0b\x0c\x0d\x0e\x0f\x10\x11\x12"
	e := someEntry([]Item{{At: 0x201, Hash: 0x0a09080706050403}, {At: 0x202, Hash: 0x1211100f0e0d0c0b}})
	if got := Put(e); string(got) != want {
		t.Errorf("Put: %x", got)
	}
	entryRead(t, []byte(want), 0, e)
}

// P8.1: what is put stands as the chapter says, and is read, wherever it
// stands, others ahead and behind.
func TestPutAndReadOfEntries(t *testing.T) {
	for n := range 70 {
		e := someEntry(items(n))
		b := Put(e)
		if !bytes.Equal(b, entryLaid(e)) {
			t.Errorf("Put of %d items: %x", n, b)
		}
		for _, ahead := range []int{0, 8, 272} {
			there := slices.Concat(wild(ahead), b, wild(n%20))
			if n == 0 {
				entryRefused(t, there, uint64(ahead), api.ErrSize)
				continue
			}
			entryRead(t, there, uint64(ahead), e)
		}
	}
	for _, n := range []int{255, 256, 257, 5000} {
		e := someEntry(items(n))
		if b := Put(e); !bytes.Equal(b, entryLaid(e)) {
			t.Errorf("Put of %d items: %x ..", n, b[:80])
		}
		entryRead(t, Put(e), 0, e)
	}
	if b := Put(Entry{}); !bytes.Equal(b, laid(3, make([]byte, 48))) {
		t.Errorf("Put of noughts: %x", b)
	}
}

// P8.1: Put asks for nothing: what Read refuses, too, is laid as it is.
func TestPutOfWhatIsRefused(t *testing.T) {
	for _, l := range [][]Item{nil, {}, {{}}, {{At: 8}, {At: 8}}, {{At: 9, Hash: 1}, {At: 8, Hash: 2}, {}}} {
		for _, seq := range []uint64{0, 1} {
			e := Entry{Seq: seq, Items: l}
			if b := Put(e); !bytes.Equal(b, entryLaid(e)) {
				t.Errorf("Put of %+v: %x", e, b)
			}
		}
	}
}

// P8.1: each number is any, and stands alone; but for Seq, it may be 0.
func TestReadOfAnyNumbers(t *testing.T) {
	one := []Item{{}}
	for _, v := range greats() {
		for _, e := range []Entry{
			{Seq: 1, Real: v, Items: one}, {Seq: 1, Mono: v, Items: one}, {Seq: 1, Xor: v, Items: one},
			{Seq: 1, Items: []Item{{At: v}}}, {Seq: 1, Items: []Item{{Hash: v}}}, {Seq: max(v, 1), Items: one},
		} {
			if b := Put(e); !bytes.Equal(b, entryLaid(e)) {
				t.Errorf("Put of %+v: %x", e, b)
			}
			entryRead(t, entryLaid(e), 0, e)
		}
	}
	for i := range 16 {
		e := Entry{Seq: 1, Items: one}
		e.Boot[i] = 0x80 + byte(i)
		if b := Put(e); !bytes.Equal(b, entryLaid(e)) {
			t.Errorf("Put of %+v: %x", e, b)
		}
		entryRead(t, entryLaid(e), 0, e)
	}
}

// P8.1: items that are not one or more whole ones are ErrSize, numbers ahead
// that are not all there too, whatever the bytes are.
func TestReadOfSizes(t *testing.T) {
	for n := range 260 {
		e := entryLaid(someEntry(items(20)))
		e = spoilt(e, 8, eights(uint64(16+n))...)
		noughts := laid(api.Entry, make([]byte, n))
		if n < 64 || n%16 != 0 {
			entryRefused(t, e, 0, api.ErrSize)
			entryRefused(t, noughts, 0, api.ErrSize)
			entryRefused(t, append(noughts, e...), 0, api.ErrSize)
			entryRefused(t, laid(api.Entry, wild(n)), 0, api.ErrSize)
			continue
		}
		entryRead(t, e, 0, someEntry(items((n-48)/16)))
		entryRefused(t, noughts, 0, api.ErrOrder)
	}
}

// P8.1: a Seq of 0 is ErrOrder, items that do not rise or not; one with any bit
// is none.
func TestReadOfSeq(t *testing.T) {
	for _, l := range [][]Item{items(1), items(9), {{}}, {{At: 8}, {At: 8}}, {{At: 9}, {At: 8}}, {{At: 1}, {}}} {
		e := someEntry(l)
		e.Seq = 0
		entryRefused(t, Put(e), 0, api.ErrOrder)
		entryRefused(t, entryLaid(e), 0, api.ErrOrder)
	}
	for bit := range 64 {
		e := Entry{Seq: 1 << bit, Items: items(2)}
		entryRead(t, entryLaid(e), 0, e)
	}
}

// P8.1: places that do not rise are ErrItems, like ones and falling ones,
// wherever among the items they are.
func TestReadOfItemsThatDoNotRise(t *testing.T) {
	for n := 2; n < 20; n++ {
		for i := 1; i < n; i++ {
			for _, at := range []uint64{items(n)[i-1].At, items(n)[i-1].At - 1, items(n)[0].At, 0} {
				l := items(n)
				l[i].At = at
				entryRefused(t, entryLaid(someEntry(l)), 0, api.ErrItems)
			}
		}
	}
	for _, l := range [][]Item{
		{{}, {}}, {{At: 8, Hash: 1}, {At: 8, Hash: 2}}, {{At: 1, Hash: 1}, {At: 0, Hash: 2}},
		{{At: 1}, {At: 3}, {At: 2}}, {{At: 3}, {At: 1}, {At: 2}}, {{At: math.MaxUint64}, {At: math.MaxUint64}},
		{{At: math.MaxUint64}, {At: 0}},
	} {
		entryRefused(t, entryLaid(Entry{Seq: 1, Items: l}), 0, api.ErrItems)
	}
}

// P8.1: places rise as numbers of 64 bits, by one or by any, from 0 on; hashes
// need not.
func TestReadOfItemsThatRise(t *testing.T) {
	l := greats()
	for i := 1; i < len(l); i++ {
		up := Entry{Seq: 1, Items: []Item{{At: l[i-1], Hash: 5}, {At: l[i], Hash: 5}}}
		entryRead(t, entryLaid(up), 0, up)
		down := Entry{Seq: 1, Items: []Item{{At: l[i], Hash: 1}, {At: l[i-1], Hash: 2}}}
		entryRefused(t, entryLaid(down), 0, api.ErrItems)
	}
	near := Entry{Seq: 1, Items: []Item{{At: 0, Hash: 9}, {At: 1, Hash: 8}, {At: 2, Hash: 8}, {At: 1 << 63}, {At: math.MaxUint64}}}
	entryRead(t, entryLaid(near), 0, near)
}

// codeOf answers the code of Read by the chapter's words, of an object that is
// right but for its kind, its length, its Seq and its one or two items' places.
func codeOf(kind, n int, seq, one, two uint64) int {
	switch {
	case kind != 3:
		return api.ErrType
	case n != 64 && n != 80:
		return api.ErrSize
	case seq == 0:
		return api.ErrOrder
	case n == 80 && two <= one:
		return api.ErrItems
	}
	return api.Fine
}

// P8.1, P0.2: where several things are amiss, the first of the sentence is
// told.
func TestReadTellsTheFirstThatIsAmiss(t *testing.T) {
	for kind := api.Data; kind <= api.Tag; kind++ {
		for n := range 81 {
			for _, seq := range []uint64{0, 1, 1 << 40} {
				for _, places := range [][2]uint64{{0, 0}, {0, 1}, {1, 0}, {8, 16}, {1 << 40, 1 << 40}, {1 << 63, 1}} {
					body := slices.Concat(eights(seq, 2, 3), wild(16), eights(4, places[0], 5, places[1], 6))
					b := laid(byte(kind), body[:n])
					if code := codeOf(kind, n, seq, places[0], places[1]); code != api.Fine {
						entryRefused(t, b, 0, code)
						continue
					}
					l := []Item{{At: places[0], Hash: 5}, {At: places[1], Hash: 6}}
					entryRead(t, b, 0, Entry{Seq: seq, Real: 2, Mono: 3, Boot: api.ID(wild(16)), Xor: 4, Items: l[:(n-48)/16]})
				}
			}
		}
	}
}

// P8.1: of no payload 0; of one its Lookup, of an empty one too.
func TestXorOfFew(t *testing.T) {
	for _, l := range [][][]byte{nil, {}} {
		if got := Xor(l); got != 0 {
			t.Errorf("Xor of none: %#x", got)
		}
	}
	for n := range 60 {
		if got := Xor([][]byte{wild(n)}); got != hash.Lookup(wild(n)) {
			t.Errorf("Xor of one of %d bytes: %#x", n, got)
		}
	}
	if got := Xor([][]byte{nil}); got != 0xdeadbeefdeadbeef {
		t.Errorf("Xor of an empty one: %#x", got)
	}
	if got := Xor([][]byte{nil, {}, wild(3)[:0]}); got != 0xdeadbeefdeadbeef {
		t.Errorf("Xor of three empty ones: %#x", got)
	}
}

// P8.1: of many the Lookups of all, in whatever order; twice the same one goes
// away.
func TestXorOfMany(t *testing.T) {
	var l [][]byte
	want := uint64(0)
	for n := range 60 {
		l = append(l, wild(n))
		want ^= hash.Lookup(wild(n))
		if got := Xor(l); got != want {
			t.Errorf("Xor of %d: %#x; want %#x", n+1, got, want)
		}
	}
	slices.Reverse(l)
	if got := Xor(l); got != want {
		t.Errorf("Xor of all, turned about: %#x; want %#x", got, want)
	}
	if got := Xor(append(l, l...)); got != 0 {
		t.Errorf("Xor of all twice: %#x", got)
	}
	p, q := []byte("A=1"), []byte("B=2")
	if got := Xor([][]byte{p, q, p}); got != hash.Lookup(q) {
		t.Errorf("Xor of p, q, p: %#x", got)
	}
	if got := Xor([][]byte{p, q}); got == Xor([][]byte{[]byte("A=1B=2")}) || got != hash.Lookup(p)^hash.Lookup(q) {
		t.Errorf("Xor of p, q: %#x", got)
	}
}

// P0.4: what is handed in is not changed, and what lies behind its length
// neither read nor written.
func TestEntriesLeaveSpareRoomAlone(t *testing.T) {
	for n := range 12 {
		room := items(12)
		e := someEntry(room[:n])
		if got := Put(e); !bytes.Equal(got, entryLaid(someEntry(items(n)))) {
			t.Errorf("Put of %d items with others behind: %x", n, got)
		}
		if !slices.Equal(room, items(12)) {
			t.Errorf("Put of %d items changed them", n)
		}
		l := [][]byte{wild(60)[:n], wild(60)[:n+1], wild(60)}
		if got := Xor(l[:2]); got != hash.Lookup(wild(n))^hash.Lookup(wild(n+1)) {
			t.Errorf("Xor of %d and %d bytes with others behind: %#x", n, n+1, got)
		}
		for i, m := range []int{n, n + 1, 60} {
			if len(l[i]) != m || !bytes.Equal(l[i][:60], wild(60)) {
				t.Errorf("Xor changed what it was handed: %x", l[i])
			}
		}
	}
}

// P0.4: each list handed out is new memory, its spare room too.
func TestEntriesShareNoMemory(t *testing.T) {
	for n := 1; n < 40; n++ {
		e := someEntry(items(n))
		one, other := Put(e), Put(e)
		one = one[:cap(one)]
		for i := range one {
			one[i] = 0xee
		}
		clear(e.Items)
		if !bytes.Equal(other, entryLaid(someEntry(items(n)))) {
			t.Errorf("writing into an object of %d items, or into these, shows in %x", n, other)
		}
		b := bytes.Clone(other)
		left, _ := Read(b, 0)
		right, _ := Read(b, 0)
		clear(left.Items[:cap(left.Items)])
		if !bytes.Equal(b, other) {
			t.Errorf("writing into %d items that were read shows in the bytes", n)
		}
		clear(b)
		if !sameEntry(right, someEntry(items(n))) {
			t.Errorf("writing beside %d items that were read shows in %+v", n, right)
		}
	}
}
