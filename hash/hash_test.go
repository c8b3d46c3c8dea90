package hash

import (
	"bytes"
	"testing"

	"diurnal/api"
)

// row answers the bytes 0, 1, 2, ..
func row(n int) []byte {
	b := make([]byte, n)
	for i := range b {
		b[i] = byte(i)
	}
	return b
}

// wild answers bytes of which no two neighbours are like, nor two blocks of
// 256.
func wild(n int) []byte {
	b := make([]byte, n)
	for i := range b {
		b[i] = byte(i*0x9d+0xc3) ^ byte(i>>8)
	}
	return b
}

func rowKey() api.ID {
	return api.ID(row(16))
}

func wildKey() api.ID {
	return api.ID{0xf0, 0x8f, 0x01, 0x80, 0xff, 0x7e, 0xc2, 0xed, 0x00, 0xb7, 0x99, 0xd4, 0x80, 0x03, 0xfe, 0xa5}
}

// P2.3: Of is Sip, if keyed, else Lookup, which asks for no key.
func TestOfChooses(t *testing.T) {
	for n := range 30 {
		b := wild(n)
		for _, key := range []api.ID{{}, rowKey(), wildKey()} {
			if got := Of(true, key, b); got != Sip(key, b) {
				t.Errorf("Of keyed by %x of %d bytes: %#x; want %#x", key, n, got, Sip(key, b))
			}
			if got := Of(false, key, b); got != Lookup(b) {
				t.Errorf("Of not keyed (%x) of %d bytes: %#x; want %#x", key, n, got, Lookup(b))
			}
		}
	}
	if got := Of(true, rowKey(), row(15)); got != 0xa129ca6149be45e5 {
		t.Errorf("Of keyed, the chapter's example: %#x", got)
	}
	if got := Of(false, rowKey(), nil); got != 0xdeadbeefdeadbeef {
		t.Errorf("Of not keyed, the chapter's example: %#x", got)
	}
}

// P0.4: what is handed in is not changed, and what lies behind its length
// neither read nor written.
func TestSpareRoomIsLeftAlone(t *testing.T) {
	calls := map[string]func(b []byte) uint64{
		"Lookup":   Lookup,
		"Sip":      func(b []byte) uint64 { return Sip(wildKey(), b) },
		"Of":       func(b []byte) uint64 { return Of(true, wildKey(), b) },
		"Of plain": func(b []byte) uint64 { return Of(false, wildKey(), b) },
		"Sum": func(b []byte) uint64 {
			s := New(wildKey())
			s.Add(b)
			return s.Value()
		},
	}
	for name, call := range calls {
		for n := range 30 {
			room := wild(60)
			got := call(room[:n])
			if want := call(wild(n)[:n:n]); got != want {
				t.Errorf("%s of %d bytes with others behind: %#x; want %#x", name, n, got, want)
			}
			if !bytes.Equal(room, wild(60)) {
				t.Errorf("%s of %d bytes changed what it was handed", name, n)
			}
		}
	}
}

// P0.4: nil and the empty list are the same.
func TestNilIsEmpty(t *testing.T) {
	if Lookup(nil) != Lookup([]byte{}) || Sip(wildKey(), nil) != Sip(wildKey(), []byte{}) {
		t.Error("nil and the empty list have unlike hashes")
	}
}
