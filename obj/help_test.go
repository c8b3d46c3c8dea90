package obj

import (
	"bytes"
	"math"
	"slices"
	"testing"

	"diurnal/api"
)

// wild answers bytes of which none is 0, nor like its neighbours.
func wild(n int) []byte {
	b := make([]byte, n)
	for i := range b {
		b[i] = byte(i*0x9d%255) + 1
	}
	return b
}

// greats answers numbers about the ends of all widths.
func greats() []uint64 {
	return []uint64{0, 1, 7, 8, 16, 0xff, 0x100, 0xffff, math.MaxUint32, 1 << 32, math.MaxInt64, 1 << 63,
		math.MaxUint64 - 16, math.MaxUint64 - 15, math.MaxUint64 - 8, math.MaxUint64 - 7, math.MaxUint64 - 1, math.MaxUint64}
}

// eight answers the eight bytes of v, the lowest first.
func eight(v uint64) []byte {
	b := make([]byte, 8)
	for i := range b {
		b[i] = byte(v >> (8 * i))
	}
	return b
}

// laid answers an object as it stands in bytes, by the chapter's words.
func laid(kind byte, body []byte) []byte {
	b := []byte{kind, 0, 0, 0, 0, 0, 0, 0}
	b = slices.Concat(b, eight(uint64(16+len(body))), body)
	for len(b)%8 != 0 {
		b = append(b, 0)
	}
	return b
}

// spoilt answers b with v at the place at.
func spoilt(b []byte, at int, v ...byte) []byte {
	out := bytes.Clone(b)
	copy(out[at:], v)
	return out
}

// frames tells where Read does not answer that kind and size.
func frames(t *testing.T, b []byte, at uint64, kind int, size uint64) {
	t.Helper()
	if f, code := Read(b, at); code != api.Fine || f != (Frame{Kind: kind, Size: size}) {
		t.Errorf("Read of %d bytes at %d: %+v, %d; want kind %d, size %d", len(b), at, f, code, kind, size)
	}
}

// refused tells where Read does not tell the code, with nothing beside; what
// it refuses, the readers of one kind refuse with the same code.
func refused(t *testing.T, b []byte, at uint64, code int) {
	t.Helper()
	if f, got := Read(b, at); got != code || f != (Frame{}) {
		t.Errorf("Read of %d bytes at %d: %+v, %d; want %d", len(b), at, f, got, code)
	}
	dataRefused(t, b, at, code)
	fieldRefused(t, b, at, code)
}

// dataRefused tells where ReadData does not tell the code, with nothing beside.
func dataRefused(t *testing.T, b []byte, at uint64, code int) {
	t.Helper()
	if d, got := ReadData(b, at); got != code || !sameData(d, Data{}) {
		t.Errorf("ReadData of %d bytes at %d: %+v, %d; want %d", len(b), at, d, got, code)
	}
}

// fieldRefused tells where ReadField does not tell the code, with nothing
// beside.
func fieldRefused(t *testing.T, b []byte, at uint64, code int) {
	t.Helper()
	if f, got := ReadField(b, at); got != code || !sameField(f, Field{}) {
		t.Errorf("ReadField of %d bytes at %d: %+v, %d; want %d", len(b), at, f, got, code)
	}
}

// dataRead tells where ReadData does not answer d.
func dataRead(t *testing.T, b []byte, at uint64, d Data) {
	t.Helper()
	if got, code := ReadData(b, at); code != api.Fine || !sameData(got, d) {
		t.Errorf("ReadData of %d bytes at %d: %+v, %d; want %+v", len(b), at, got, code, d)
	}
}

// fieldRead tells where ReadField does not answer f.
func fieldRead(t *testing.T, b []byte, at uint64, f Field) {
	t.Helper()
	if got, code := ReadField(b, at); code != api.Fine || !sameField(got, f) {
		t.Errorf("ReadField of %d bytes at %d: %+v, %d; want %+v", len(b), at, got, code, f)
	}
}

func sameData(a, b Data) bool {
	return a.Hash == b.Hash && a.NextHash == b.NextHash && a.NextField == b.NextField && a.Entry == b.Entry &&
		a.Array == b.Array && a.Count == b.Count && bytes.Equal(a.Payload, b.Payload)
}

func sameField(a, b Field) bool {
	return a.Hash == b.Hash && a.NextHash == b.NextHash && a.Data == b.Data && bytes.Equal(a.Payload, b.Payload)
}
