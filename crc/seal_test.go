package crc

import (
	"bytes"
	"testing"

	"diurnal/api"
)

// refused tells where Open of b does not tell the code, with nothing beside.
func refused(t *testing.T, b []byte, code int) {
	t.Helper()
	if x, got := Open(b); got != code || len(x) > 0 {
		t.Errorf("Open of %x: %x, %d; want %d", b, x, got, code)
	}
}

// opened tells where Open of b is not x.
func opened(t *testing.T, b, x []byte) {
	t.Helper()
	if got, code := Open(b); code != api.Fine || !bytes.Equal(got, x) {
		t.Errorf("Open of %x: %x, %d; want %x", b, got, code, x)
	}
}

// P3.2: b, and behind it its sum, the lowest byte first.
func TestSealLaysTheSumBehind(t *testing.T) {
	for _, c := range []struct {
		b   []byte
		sum []byte
	}{
		{nil, []byte{0, 0, 0, 0}},
		{[]byte{}, []byte{0, 0, 0, 0}},
		{[]byte{0xff}, []byte{0, 0, 0, 0xff}},
		{[]byte("123456789"), []byte{0x83, 0x92, 0x06, 0xe3}},
		{make([]byte, 32), []byte{0xaa, 0x36, 0x91, 0x8a}},
	} {
		if got := Seal(c.b); !bytes.Equal(got, append(bytes.Clone(c.b), c.sum...)) {
			t.Errorf("Seal of %x: %x; want %x behind", c.b, got, c.sum)
		}
	}
	for n := range 300 {
		s := want(0, wild(n))
		sealed := append(wild(n), byte(s), byte(s>>8), byte(s>>16), byte(s>>24))
		if got := Seal(wild(n)); !bytes.Equal(got, sealed) {
			t.Errorf("Seal of %d bytes: %x; want %x", n, got, sealed)
		}
	}
}

// P3.2: what Seal told, Open opens, a sealed one within a sealed one too.
func TestOpenOpensWhatIsSealed(t *testing.T) {
	for n := range 300 {
		opened(t, Seal(wild(n)), wild(n))
		opened(t, Seal(Seal(wild(n))), Seal(wild(n)))
	}
	for _, n := range []int{32768, 65536, 1 << 20} {
		opened(t, Seal(wild(n)), wild(n))
	}
	opened(t, []byte("123456789\x83\x92\x06\xe3"), []byte("123456789"))
}

// P3.2: fewer than 4 bytes are ErrShort, whatever they are; four are the sum
// of nothing, or of another thing.
func TestOpenOfFewBytes(t *testing.T) {
	refused(t, nil, api.ErrShort)
	for n := range 4 {
		refused(t, make([]byte, n), api.ErrShort)
		refused(t, make([]byte, n, 8), api.ErrShort)
		refused(t, bytes.Repeat([]byte{0xff}, n), api.ErrShort)
		refused(t, Seal([]byte("123456789"))[:n], api.ErrShort)
	}
	opened(t, make([]byte, 4), nil)
	for bit := range 32 {
		b := make([]byte, 4)
		b[bit/8] = 1 << (bit % 8)
		refused(t, b, api.ErrSum)
	}
	refused(t, bytes.Repeat([]byte{0xff}, 4), api.ErrSum)
}

// P3.2: another sum is ErrSum: one with the highest byte first, one that is
// not turned over, one of more or fewer bytes, one that stands ahead.
func TestOpenOfAnotherSum(t *testing.T) {
	for _, b := range []string{
		"123456789\xe3\x06\x92\x83",
		"123456789\x7c\x6d\xf9\x1c",
		"123456789\x00\x00\x00\x00",
		"\x83\x92\x06\xe3123456789",
		"12345678\x83\x92\x06\xe3",
		"1234567890\x83\x92\x06\xe3",
		"123456789\x83\x92\x06",
		"123456789\x83\x92\x06\xe3\x00",
		"123456789\x83\x92\x06\xe3\xe3",
		"213456789\x83\x92\x06\xe3",
	} {
		refused(t, []byte(b), api.ErrSum)
	}
}

// P3.2: of any bytes, the last four say whether it opens.
func TestOpenOfAnyBytes(t *testing.T) {
	for n := 5; n < 300; n++ {
		b := wild(n)
		refused(t, b, api.ErrSum)
		opened(t, Seal(b[:n-4]), b[:n-4])
		refused(t, append(Seal(b), 0), api.ErrSum)
		refused(t, Seal(b)[1:], api.ErrSum)
		refused(t, Seal(b)[:n+3], api.ErrSum)
	}
}

// P0.4: what is handed in is not changed, and what lies behind its length
// neither read nor written.
func TestSealAndOpenLeaveSpareRoomAlone(t *testing.T) {
	for n := range 20 {
		room := wild(40)
		if got := Seal(room[:n]); !bytes.Equal(got, Seal(wild(n))) {
			t.Errorf("Seal of %d bytes with others behind: %x", n, got)
		}
		if !bytes.Equal(room, wild(40)) {
			t.Errorf("Seal of %d bytes changed what it was handed", n)
		}
		room = append(Seal(wild(n)), wild(40)...)
		whole := bytes.Clone(room)
		opened(t, room[:n+4], wild(n))
		refused(t, room[:n+5], api.ErrSum)
		refused(t, room[:3], api.ErrShort)
		if !bytes.Equal(room, whole) {
			t.Errorf("Open of %d bytes changed what it was handed", n+4)
		}
	}
}

// P0.4: each list handed out is new memory, its spare room too.
func TestAnswersShareNoMemory(t *testing.T) {
	calls := map[string]func(b []byte) []byte{
		"Seal": Seal,
		"Open": func(b []byte) []byte { x, _ := Open(b); return x },
	}
	for name, call := range calls {
		for n := range 40 {
			room := append(Seal(wild(n)), wild(10)...)
			whole := bytes.Clone(room)
			one, other := call(room[:n+4]), call(room[:n+4])
			told := bytes.Clone(other)
			for i := range one[:cap(one)] {
				one[:cap(one)][i] ^= 0xff
			}
			if !bytes.Equal(other, told) || !bytes.Equal(room, whole) {
				t.Errorf("%s of %d bytes: writing into an answer shows in %x, %x", name, n+4, other, room)
			}
			clear(room)
			if !bytes.Equal(other, told) {
				t.Errorf("%s of %d bytes: writing into the argument shows in %x", name, n+4, other)
			}
		}
	}
}
