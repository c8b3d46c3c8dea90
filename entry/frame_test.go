package entry

import (
	"bytes"
	"math"
	"testing"

	"diurnal/api"
)

// whole answers an object of each kind that is read here, right ones.
func whole() [][]byte {
	return [][]byte{
		entryLaid(someEntry(items(2))), arrayLaid(someArray(places(3))),
		tableLaid(api.DataTable, slots(2)), tableLaid(api.FieldTable, slots(2)),
	}
}

// P8.1, P8.2: obj.Read's codes, each reader of each kind of object.
func TestReadersTellObjectsCodes(t *testing.T) {
	for _, b := range whole() {
		for at := uint64(1); at < 40; at++ {
			if at%8 != 0 {
				refused(t, append(wild(int(at)), b...), at, api.ErrAlign)
			}
		}
		for n := range len(b) {
			refused(t, b[:n], 0, api.ErrRange)
		}
		for flags := 1; flags < 256; flags++ {
			refused(t, spoilt(b, 1, byte(flags)), 0, api.ErrFlags)
		}
		for size := range uint64(16) {
			refused(t, spoilt(b, 8, eights(size)...), 0, api.ErrSize)
		}
		refused(t, spoilt(b, 8, byte(len(b)+1)), 0, api.ErrRange)
		refused(t, spoilt(b, 8, eights(math.MaxUint64)...), 0, api.ErrRange)
		for _, kind := range []byte{0, 8, 9, 0x83, 0x86, 255} {
			refused(t, spoilt(b, 0, kind), 0, api.ErrType)
		}
	}
}

// P8.1, P8.2: places far beyond the bytes, also such as go round with what
// stands ahead of a body.
func TestReadersOfPlacesBeyond(t *testing.T) {
	for _, b := range append(whole(), nil, []byte{}) {
		for _, at := range greats() {
			switch {
			case at%8 != 0:
				refused(t, b, at, api.ErrAlign)
			case at > uint64(len(b)):
				refused(t, b, at, api.ErrRange)
			}
		}
		refused(t, b, uint64(len(b)), api.ErrRange)
	}
}

// P8.1, P8.2, P0.2: obj.Read's codes come ahead of a reader's own, whatever
// kind and body the object has.
func TestObjectsCodesComeFirst(t *testing.T) {
	for kind := api.Data; kind <= api.Tag; kind++ {
		for _, n := range []int{0, 1, 8, 15, 16, 47, 48, 63, 64, 80} {
			b := laid(byte(kind), make([]byte, n))
			refused(t, b, 4, api.ErrAlign)
			refused(t, b[:15], 0, api.ErrRange)
			refused(t, spoilt(b, 0, byte(kind+8)), 0, api.ErrType)
			refused(t, spoilt(b, 1, 1), 0, api.ErrFlags)
			refused(t, spoilt(b, 8, 15), 0, api.ErrSize)
			refused(t, spoilt(b, 8, byte(len(b)+1)), 0, api.ErrRange)
		}
	}
}

// P8.1, P8.2: an object of another kind is ErrType, with a body of whatever
// length, which would be right or not.
func TestReadOfAnotherKind(t *testing.T) {
	for kind := api.Data; kind <= api.Tag; kind++ {
		for n := range 100 {
			for _, body := range [][]byte{wild(n), make([]byte, n)} {
				b := append(wild(8), laid(byte(kind), body)...)
				if kind != api.Entry {
					entryRefused(t, b, 8, api.ErrType)
				}
				if kind != api.Array {
					arrayRefused(t, b, 8, api.ErrType)
				}
				for _, table := range tables() {
					if kind != table {
						tableRefused(t, b, 8, table, api.ErrType)
					}
				}
			}
		}
	}
}

// P8.1, P8.2: the six bytes are not looked at, nor what stands behind an
// object.
func TestReadersLookNotAtAllBytes(t *testing.T) {
	for _, behind := range [][]byte{nil, wild(1), wild(24), make([]byte, 24)} {
		e := append(entryLaid(someEntry(items(2))), behind...)
		a := append(arrayLaid(someArray(places(3))), behind...)
		for i := 2; i < 8; i++ {
			entryRead(t, spoilt(e, i, 0xff), 0, someEntry(items(2)))
			arrayRead(t, spoilt(a, i, 0xff), 0, someArray(places(3)))
			for _, kind := range tables() {
				l := append(tableLaid(kind, slots(2)), behind...)
				tableRead(t, spoilt(l, i, 0xff), 0, kind, slots(2))
			}
		}
	}
}

// P0.4: what is read is not changed, and what lies behind its length neither
// read nor written.
func TestReadersLeaveBytesAlone(t *testing.T) {
	for _, b := range whole() {
		room := append(bytes.Clone(b), wild(64)...)
		full := bytes.Clone(room)
		for n := range len(b) + 1 {
			Read(room[:n], 0)
			ReadArray(room[:n], 0)
			ReadTable(room[:n], 0, api.DataTable)
			ReadTable(room[:n], 0, api.FieldTable)
		}
		if !bytes.Equal(room, full) {
			t.Errorf("an object of %d bytes is changed by reading", len(b))
		}
		refused(t, spoilt(room, 8, byte(len(b)+8))[:len(b)], 0, api.ErrRange)
	}
}
