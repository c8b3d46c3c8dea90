package marks

import (
	"bytes"
	"slices"
	"testing"

	"diurnal/api"
)

// size is how many bytes a mark has.
const size = 40

// plainRead is Read by the chapter's words, byte by byte from the front.
func plainRead(b []byte) ([]api.Mark, int, int) {
	if len(b) == 0 {
		return nil, 0, api.ErrShort
	}
	count := int(b[0])
	if count > 4 {
		return nil, 0, api.ErrLong
	}
	var l []api.Mark
	for i, c := range b[1:] {
		if i == count*size {
			break
		}
		at := i % size
		if at == 0 {
			l = append(l, api.Mark{})
		}
		m := &l[len(l)-1]
		switch {
		case at < 16:
			m.ID[at] = c
		case at < 24:
			m.Seq |= uint64(c) << (8 * (at - 16))
		case at < 32:
			m.Lost |= uint64(c) << (8 * (at - 24))
		default:
			m.Over |= uint64(c) << (8 * (at - 32))
		}
		if at == 15 && len(l) > 1 && !below(l[len(l)-2].ID, m.ID) {
			return nil, 0, api.ErrOrder
		}
	}
	if len(b) < 1+count*size {
		return nil, 0, api.ErrShort
	}
	return l, 1 + count*size, api.Fine
}

// reads tells where Read of b does not answer that.
func reads(t *testing.T, b []byte, want []api.Mark, wantN, wantCode int) {
	t.Helper()
	l, n, code := Read(b)
	if code != wantCode || n != wantN || !slices.Equal(l, want) {
		t.Errorf("Read of %d bytes, %.60x: %v, %d, %d; want %v, %d, %d", len(b), b, l, n, code, want, wantN, wantCode)
	}
}

// P20.3: each part at its place.
func TestBytes(t *testing.T) {
	m := api.Mark{ID: api.ID([]byte("ABCDEFGHIJKLMNOP")), Seq: 0x0807060504030201, Lost: 0x1817161514131211, Over: 0x2827262524232221}
	want := []byte("\x01ABCDEFGHIJKLMNOP\x01\x02\x03\x04\x05\x06\x07\x08\x11\x12\x13\x14\x15\x16\x17\x18\x21\x22\x23\x24\x25\x26\x27\x28")
	if got := Bytes([]api.Mark{m}); !bytes.Equal(got, want) {
		t.Errorf("Bytes of one: %x", got)
	}
	if got := Bytes(nil); !bytes.Equal(got, []byte{0}) {
		t.Errorf("Bytes of none: %x", got)
	}
	if got := Bytes([]api.Mark{}); !bytes.Equal(got, []byte{0}) {
		t.Errorf("Bytes of none: %x", got)
	}
	for n := range 5 {
		l := row(1, 2, 3, 4)[:n]
		if got := Bytes(l); !bytes.Equal(got, laid(byte(n), l)) || len(got) != 1+n*size {
			t.Errorf("Bytes of %d: %x", n, got)
		}
	}
}

// P20.3: nothing of what is not Right.
func TestBytesOfWrongs(t *testing.T) {
	for _, l := range wrongs() {
		if got := Bytes(l); len(got) != 0 {
			t.Errorf("Bytes of %v: %x", l, got)
		}
	}
}

// P20.3: Read goes back, whatever the numbers are, and whatever stands behind.
func TestReadOfBytes(t *testing.T) {
	for _, v := range greats() {
		for n := range 5 {
			var l []api.Mark
			for i := range n {
				l = append(l, api.Mark{ID: rising()[i*4], Seq: v, Lost: ^v, Over: v / 3})
			}
			b := Bytes(l)
			reads(t, b, l, 1+n*size, api.Fine)
			for _, more := range [][]byte{{0}, {9}, {255}, make([]byte, 39), make([]byte, 40), make([]byte, 200), b} {
				reads(t, slices.Concat(b, more), l, 1+n*size, api.Fine)
			}
		}
	}
}

// P20.3: ErrShort: bytes end.
func TestReadOfBeginnings(t *testing.T) {
	reads(t, nil, nil, 0, api.ErrShort)
	reads(t, []byte{}, nil, 0, api.ErrShort)
	for n := 1; n < 5; n++ {
		b := Bytes(row(1, 2, 3, 4)[:n])
		for i := range b {
			reads(t, b[:i], nil, 0, api.ErrShort)
			reads(t, b[:i:i], nil, 0, api.ErrShort)
		}
	}
}

// P20.3: ErrLong: more than MaxMarks, be they there or not.
func TestReadOfTooMany(t *testing.T) {
	for count := 5; count < 256; count++ {
		reads(t, []byte{byte(count)}, nil, 0, api.ErrLong)
		reads(t, append([]byte{byte(count)}, make([]byte, 20)...), nil, 0, api.ErrLong)
		reads(t, laid(byte(count), row(1, 2, 3, 4, 5)), nil, 0, api.ErrLong)
		reads(t, laid(byte(count), row(2, 1)), nil, 0, api.ErrLong)
		reads(t, append([]byte{byte(count)}, make([]byte, count*size)...), nil, 0, api.ErrLong)
	}
}

// P20.3: ErrOrder: an ID is not above the one ahead, as soon as it is whole.
func TestReadOfWrongOrders(t *testing.T) {
	for _, ids := range [][]byte{{1, 1}, {2, 1}, {1, 2, 2}, {1, 3, 2}, {2, 3, 1}, {1, 2, 3, 3}, {1, 2, 4, 3}, {1, 2, 3, 1}} {
		b := laid(byte(len(ids)), row(ids...))
		last := 1 + (len(ids)-1)*size
		for i := range b {
			if i < last+16 {
				reads(t, b[:i], nil, 0, api.ErrShort)
			} else {
				reads(t, b[:i], nil, 0, api.ErrOrder)
			}
		}
		reads(t, b, nil, 0, api.ErrOrder)
		reads(t, append(b, 1, 2, 3), nil, 0, api.ErrOrder)
		// One count less: the one that is amiss stands behind.
		reads(t, spoilt(b, 0, byte(len(ids)-1)), row(ids[:len(ids)-1]...), last, api.Fine)
	}
	early := laid(4, row(2, 1))
	for i := 1 + size + 16; i < len(early); i++ {
		reads(t, early[:i], nil, 0, api.ErrOrder)
	}
}

// P20.3: the order is that of all bytes of the IDs.
func TestReadOrderByBytes(t *testing.T) {
	ids := rising()
	for i, a := range ids {
		for j, b := range ids {
			l := []api.Mark{{ID: a, Seq: 9}, {ID: b, Seq: 1}}
			if i < j {
				reads(t, laid(2, l), l, 1+2*size, api.Fine)
			} else {
				reads(t, laid(2, l), nil, 0, api.ErrOrder)
			}
		}
	}
}

// P20.3: one byte turned, cut anywhere, against the chapter's words.
func TestReadOfSpoilt(t *testing.T) {
	for n := range 5 {
		whole := append(Bytes(row(1, 2, 3, 4)[:n]), 7, 8, 9)
		for at := range whole {
			for _, c := range []byte{0, 1, 2, 3, 4, 5, 0x7f, 0x80, 0xff} {
				b := spoilt(whole, at, c)
				for _, cut := range []int{0, 1, at, at + 1, 1 + size + 15, 1 + size + 16, len(b) - 4, len(b) - 3, len(b)} {
					if cut > len(b) {
						continue
					}
					l, k, code := plainRead(b[:cut])
					reads(t, b[:cut], l, k, code)
				}
			}
		}
	}
}

// P0.12: thrown bytes, against the chapter's words: what is read is Right, and
// its Bytes are those that were read.
func TestReadOfThrown(t *testing.T) {
	throw := thrown()
	counts := [5]int{}
	for range 30000 {
		b := make([]byte, throw(1+5*size))
		for i := range b {
			b[i] = byte(throw(256))
			if throw(3) > 0 {
				b[i] = byte(throw(3))
			}
		}
		want, n, wantCode := plainRead(b)
		reads(t, b, want, n, wantCode)
		l, n, code := Read(b)
		if code != api.Fine {
			continue
		}
		counts[len(l)]++
		if !Right(l) || !bytes.Equal(Bytes(l), b[:n]) {
			t.Errorf("Read of %x: %v, whose Bytes are %x", b, l, Bytes(l))
		}
	}
	if slices.Min(counts[:3]) == 0 {
		t.Errorf("so many of each count were read: %v", counts)
	}
}

// P0.4: what was handed in is as it was; what is handed out is new memory.
func TestBytesAndReadMemory(t *testing.T) {
	for n := range 5 {
		k := keep(row(1, 2, 3, 4)[:n])
		one, other := Bytes(k.list()), Bytes(k.list())
		told := bytes.Clone(other)
		for i := range one[:cap(one)] {
			one[:cap(one)][i] = 0xee
		}
		k.unchanged(t, "Bytes")
		if !bytes.Equal(other, told) {
			t.Errorf("Bytes of %d: another answer shows in %x", n, other)
		}
		all := append(told, 0xaa, 0xbb)
		given := all[:len(all)-2]
		l, _, _ := Read(given)
		left, _, _ := Read(given)
		spoil(l)
		if !bytes.Equal(all, append(laid(byte(n), k.list()), 0xaa, 0xbb)) {
			t.Errorf("Read of %d marks changed what it was handed: %x", n, all)
		}
		clear(all)
		if !slices.Equal(left, k.list()) {
			t.Errorf("Read of %d marks: another answer, or the bytes, show in %v", n, left)
		}
	}
}
