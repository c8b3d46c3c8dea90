package entry

import (
	"bytes"
	"math"
	"slices"
	"testing"

	"diurnal/api"
)

// wild answers bytes of which none is 0, nor like its neighbours.
func wild(n int) []byte {
	b := make([]byte, n)
	for i := range b {
		b[i] = byte(i*0x9d%255) + 1
	}
	return b
}

// greats answers numbers about the ends of all widths, rising.
func greats() []uint64 {
	return []uint64{0, 1, 7, 8, 16, 0xff, 0x100, 0xffff, math.MaxUint32, 1 << 32, math.MaxInt64, 1 << 63,
		math.MaxUint64 - 16, math.MaxUint64 - 15, math.MaxUint64 - 8, math.MaxUint64 - 7, math.MaxUint64 - 1, math.MaxUint64}
}

// eights answers the eight bytes of each number, the lowest first.
func eights(l ...uint64) []byte {
	var b []byte
	for _, v := range l {
		for i := range 8 {
			b = append(b, byte(v>>(8*i)))
		}
	}
	return b
}

// laid answers an object as it stands in bytes, by the words of obj's chapter.
func laid(kind byte, body []byte) []byte {
	b := []byte{kind, 0, 0, 0, 0, 0, 0, 0}
	b = slices.Concat(b, eights(uint64(16+len(body))), body)
	for len(b)%8 != 0 {
		b = append(b, 0)
	}
	return b
}

// spoilt answers b with v at the place at.
func spoilt(b []byte, at int, v ...byte) []byte {
	out := bytes.Clone(b)
	copy(out[at:], v)
	return out
}

// items answers n items at rising places, their hashes falling.
func items(n int) []Item {
	var l []Item
	for i := range uint64(n) {
		l = append(l, Item{At: 0x0807060504030201 + i*0x0101010101, Hash: 0xf8f7f6f5f4f3f2f1 - i*0x0102030405})
	}
	return l
}

// someEntry answers an entry whose numbers are all unlike, byte by byte.
func someEntry(l []Item) Entry {
	return Entry{
		Seq: 0x1817161514131211, Real: 0x2827262524232221, Mono: 0x3837363534333231,
		Boot: api.ID([]byte("ABCDEFGHIJKLMNOP")), Xor: 0x6867666564636261, Items: l,
	}
}

// entryLaid answers e as it stands in bytes, by the chapter's words.
func entryLaid(e Entry) []byte {
	body := slices.Concat(eights(e.Seq, e.Real, e.Mono), e.Boot[:], eights(e.Xor))
	for _, item := range e.Items {
		body = append(body, eights(item.At, item.Hash)...)
	}
	return laid(3, body)
}

// places answers n numbers of any order.
func places(n int) []uint64 {
	var l []uint64
	for i := range uint64(n) {
		l = append(l, 0x8182838485868788^i*0x9d3b57a1c3e5f709)
	}
	return l
}

// someArray answers an array whose Next is unlike all its items.
func someArray(l []uint64) Array {
	return Array{Next: 0x7877767574737271, Items: l}
}

// arrayLaid answers a likewise.
func arrayLaid(a Array) []byte {
	return laid(6, append(eights(a.Next), eights(a.Items...)...))
}

// slots answers n slots.
func slots(n int) []Slot {
	var l []Slot
	for i := range uint64(n) {
		l = append(l, Slot{Head: 0x9897969594939291 ^ i*0x3b57a1c3e5f7099d, Tail: 0xa8a7a6a5a4a3a2a1 - i*0x57a1c3e5f7099d3b})
	}
	return l
}

// tableLaid answers l likewise.
func tableLaid(kind int, l []Slot) []byte {
	var body []byte
	for _, slot := range l {
		body = append(body, eights(slot.Head, slot.Tail)...)
	}
	return laid(byte(kind), body)
}

// tables answers the kinds of tables.
func tables() []int {
	return []int{api.DataTable, api.FieldTable}
}

// noTables answers kinds that are none of them, such too whose lowest bytes
// are.
func noTables() []int {
	return []int{math.MinInt, -252, -251, -5, -4, -1, 0, api.Data, api.Field, api.Entry, api.Array, api.Tag, 8, 255, 256,
		260, 261, 1<<16 + 4, 1<<32 + 4, 1<<32 + 5, math.MaxInt}
}

func sameEntry(a, b Entry) bool {
	return a.Seq == b.Seq && a.Real == b.Real && a.Mono == b.Mono && a.Boot == b.Boot && a.Xor == b.Xor && slices.Equal(a.Items, b.Items)
}

func sameArray(a, b Array) bool {
	return a.Next == b.Next && slices.Equal(a.Items, b.Items)
}

// entryRead tells where Read does not answer e.
func entryRead(t *testing.T, b []byte, at uint64, e Entry) {
	t.Helper()
	if got, code := Read(b, at); code != api.Fine || !sameEntry(got, e) {
		t.Errorf("Read of %d bytes at %d: %+v, %d; want %+v", len(b), at, got, code, e)
	}
}

// arrayRead tells where ReadArray does not answer a.
func arrayRead(t *testing.T, b []byte, at uint64, a Array) {
	t.Helper()
	if got, code := ReadArray(b, at); code != api.Fine || !sameArray(got, a) {
		t.Errorf("ReadArray of %d bytes at %d: %+v, %d; want %+v", len(b), at, got, code, a)
	}
}

// tableRead tells where ReadTable does not answer l.
func tableRead(t *testing.T, b []byte, at uint64, kind int, l []Slot) {
	t.Helper()
	if got, code := ReadTable(b, at, kind); code != api.Fine || !slices.Equal(got, l) {
		t.Errorf("ReadTable(%d) of %d bytes at %d: %+v, %d; want %+v", kind, len(b), at, got, code, l)
	}
}

// entryRefused tells where Read does not tell the code, with nothing beside.
func entryRefused(t *testing.T, b []byte, at uint64, code int) {
	t.Helper()
	if e, got := Read(b, at); got != code || !sameEntry(e, Entry{}) {
		t.Errorf("Read of %d bytes at %d: %+v, %d; want %d", len(b), at, e, got, code)
	}
}

// arrayRefused tells where ReadArray does not tell the code, with nothing
// beside.
func arrayRefused(t *testing.T, b []byte, at uint64, code int) {
	t.Helper()
	if a, got := ReadArray(b, at); got != code || !sameArray(a, Array{}) {
		t.Errorf("ReadArray of %d bytes at %d: %+v, %d; want %d", len(b), at, a, got, code)
	}
}

// tableRefused tells where ReadTable does not tell the code, with nothing
// beside.
func tableRefused(t *testing.T, b []byte, at uint64, kind, code int) {
	t.Helper()
	if l, got := ReadTable(b, at, kind); got != code || len(l) > 0 {
		t.Errorf("ReadTable(%d) of %d bytes at %d: %+v, %d; want %d", kind, len(b), at, l, got, code)
	}
}

// refused tells where one of the readers does not tell the code, with nothing
// beside.
func refused(t *testing.T, b []byte, at uint64, code int) {
	t.Helper()
	entryRefused(t, b, at, code)
	arrayRefused(t, b, at, code)
	for _, kind := range tables() {
		tableRefused(t, b, at, kind, code)
	}
}
