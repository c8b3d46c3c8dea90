package le

import (
	"bytes"
	"math"
	"testing"
)

// full's bytes are all unlike one another, some with the highest bit set.
func full() []byte {
	return []byte{0x01, 0x82, 0x03, 0x84, 0x05, 0x86, 0x07, 0x88, 0x09, 0x8a}
}

// P1.1: Get's number has the lowest byte first, at each width.
func TestGetReadsLowestByteFirst(t *testing.T) {
	for _, c := range []struct {
		at, n int
		want  uint64
	}{
		{0, 1, 0x01}, {1, 1, 0x82}, {9, 1, 0x8a},
		{0, 2, 0x8201}, {1, 2, 0x0382}, {8, 2, 0x8a09},
		{0, 4, 0x84038201}, {3, 4, 0x07860584}, {6, 4, 0x8a098807},
		{0, 8, 0x8807860584038201}, {1, 8, 0x0988078605840382}, {2, 8, 0x8a09880786058403},
	} {
		if v, ok := Get(full(), c.at, c.n); !ok || v != c.want {
			t.Errorf("Get(%d, %d): %#x, %v; want %#x", c.at, c.n, v, ok, c.want)
		}
	}
	if v, ok := Get([]byte{1, 2, 3}, 1, 2); !ok || v != 0x0302 {
		t.Errorf("Get of the chapter's example: %#x, %v", v, ok)
	}
}

// P1.1: numbers up to 2^64 - 1.
func TestGetReadsGreatestNumbers(t *testing.T) {
	b := bytes.Repeat([]byte{0xff}, 8)
	for n, want := range map[int]uint64{1: math.MaxUint8, 2: math.MaxUint16, 4: math.MaxUint32, 8: math.MaxUint64} {
		if v, ok := Get(b, 0, n); !ok || v != want {
			t.Errorf("Get of %d bytes 0xff: %#x, %v", n, v, ok)
		}
	}
}

// fits says by the chapter's words where Get and Put answer true; at and n are
// small here.
func fits(length, at, n int) bool {
	switch n {
	case 1, 2, 4, 8:
		return at >= 0 && at+n <= length
	}
	return false
}

// P1.1: of each width and place about b's ends, Get and Put answer true just
// where the bytes are all there, and nothing beside a false.
func TestGetAndPutEndWithTheBytes(t *testing.T) {
	for length := range 11 {
		b := full()[:length]
		for n := -9; n <= 17; n++ {
			for at := -9; at <= length+9; at++ {
				want := fits(length, at, n)
				v, ok := Get(b, at, n)
				if ok != want || !ok && v != 0 {
					t.Errorf("Get of %d bytes (%d, %d): %#x, %v", length, at, n, v, ok)
				}
				out, ok := Put(b, at, n, math.MaxUint64)
				if ok != want || !ok && len(out) > 0 || ok && len(out) != length {
					t.Errorf("Put of %d bytes (%d, %d): %x, %v", length, at, n, out, ok)
				}
			}
		}
	}
}

// P1.1, P0.1: places and widths whose sum would wrap round are refused.
func TestGetAndPutRefuseExtremes(t *testing.T) {
	far := []int{math.MinInt, math.MinInt + 1, -1, math.MaxInt - 8, math.MaxInt - 1, math.MaxInt}
	for _, b := range [][]byte{nil, {}, full()} {
		for _, x := range far {
			for _, c := range [][2]int{{x, 1}, {x, 2}, {x, 4}, {x, 8}, {0, x}, {1, x}, {x, x}, {x, 0}} {
				if v, ok := Get(b, c[0], c[1]); ok || v != 0 {
					t.Errorf("Get(%d, %d): %#x, %v", c[0], c[1], v, ok)
				}
				if out, ok := Put(b, c[0], c[1], 1); ok || len(out) > 0 {
					t.Errorf("Put(%d, %d): %x, %v", c[0], c[1], out, ok)
				}
			}
		}
	}
}

// P1.1: Put lays the lowest n bytes of v at the place, and leaves the others.
func TestPutWritesLowestBytes(t *testing.T) {
	const v = 0x1122334455667788
	for _, c := range []struct {
		at, n int
		want  []byte
	}{
		{0, 1, []byte{0x88, 0x82, 0x03, 0x84, 0x05, 0x86, 0x07, 0x88, 0x09, 0x8a}},
		{9, 1, []byte{0x01, 0x82, 0x03, 0x84, 0x05, 0x86, 0x07, 0x88, 0x09, 0x88}},
		{3, 2, []byte{0x01, 0x82, 0x03, 0x88, 0x77, 0x86, 0x07, 0x88, 0x09, 0x8a}},
		{6, 4, []byte{0x01, 0x82, 0x03, 0x84, 0x05, 0x86, 0x88, 0x77, 0x66, 0x55}},
		{0, 8, []byte{0x88, 0x77, 0x66, 0x55, 0x44, 0x33, 0x22, 0x11, 0x09, 0x8a}},
		{2, 8, []byte{0x01, 0x82, 0x88, 0x77, 0x66, 0x55, 0x44, 0x33, 0x22, 0x11}},
	} {
		b := full()
		out, ok := Put(b, c.at, c.n, v)
		if !ok || !bytes.Equal(out, c.want) {
			t.Errorf("Put(%d, %d): %x, %v; want %x", c.at, c.n, out, ok, c.want)
		}
		if !bytes.Equal(b, full()) {
			t.Errorf("Put(%d, %d) changed what it was handed: %x", c.at, c.n, b)
		}
	}
}

// P1.1: Add lays the lowest n bytes of v behind b; of another n, b alone.
func TestAddWritesBehind(t *testing.T) {
	const v = 0x1122334455667788
	for n, tail := range map[int][]byte{
		1: {0x88}, 2: {0x88, 0x77}, 4: {0x88, 0x77, 0x66, 0x55},
		8: {0x88, 0x77, 0x66, 0x55, 0x44, 0x33, 0x22, 0x11},
		0: nil, 3: nil, 5: nil, 6: nil, 7: nil, 9: nil, 16: nil, -1: nil, -8: nil, math.MinInt: nil, math.MaxInt: nil,
	} {
		for _, front := range [][]byte{nil, {}, {7}, full()} {
			want := append(bytes.Clone(front), tail...)
			if out := Add(front, n, v); !bytes.Equal(out, want) {
				t.Errorf("Add(%x, %d): %x; want %x", front, n, out, want)
			}
		}
	}
}

// P1.1: what Put and Add write, Get reads.
func TestGetReadsWhatIsWritten(t *testing.T) {
	for _, v := range []uint64{0, 1, 0x7f, 0x80, 0xff, 0x100, 0xffff, 0x10000, math.MaxUint32, 1 << 32, 1 << 63, math.MaxUint64 - 1, math.MaxUint64} {
		for _, n := range []int{1, 2, 4, 8} {
			want := v
			if n < 8 {
				want = v % (1 << (8 * n))
			}
			put, _ := Put(full(), 1, n, v)
			if got, ok := Get(put, 1, n); !ok || got != want {
				t.Errorf("Put, Get of %#x in %d bytes: %#x, %v", v, n, got, ok)
			}
			if got, ok := Get(Add(full(), n, v), 10, n); !ok || got != want {
				t.Errorf("Add, Get of %#x in %d bytes: %#x, %v", v, n, got, ok)
			}
		}
	}
}

// P0.4: what lies behind the length of what is handed in is neither read nor
// written.
func TestSpareRoomIsLeftAlone(t *testing.T) {
	b := full()
	head := b[:4]
	if v, ok := Get(head, 2, 4); ok || v != 0 {
		t.Errorf("Get read behind the length: %#x", v)
	}
	if out, ok := Put(head, 2, 4, 0); ok || len(out) > 0 {
		t.Errorf("Put wrote behind the length: %x", out)
	}
	Add(head, 8, 0)
	Add(head, 3, 0)
	if out, ok := Put(head, 0, 4, 0); !ok || len(out) != 4 {
		t.Errorf("Put answered other than four bytes: %x", out)
	}
	if !bytes.Equal(b, full()) {
		t.Errorf("memory that was handed in is changed: %x", b)
	}
}

// P0.4: each list handed out is new memory, its spare room too.
func TestAnswersShareNoMemory(t *testing.T) {
	calls := map[string]func(b []byte) []byte{
		"Put":             func(b []byte) []byte { out, _ := Put(b, 0, 2, 5); return out },
		"Add":             func(b []byte) []byte { return Add(b, 2, 5) },
		"Add of no width": func(b []byte) []byte { return Add(b, 3, 5) },
	}
	for name, call := range calls {
		room := full()
		b := room[:4]
		one, other := call(b), call(b)
		want := bytes.Clone(other)
		for i := range one[:cap(one)] {
			one[:cap(one)][i] = 0xee
		}
		if !bytes.Equal(other, want) || !bytes.Equal(room, full()) {
			t.Errorf("%s: writing into an answer shows in %x, %x", name, other, room)
		}
		clear(b)
		if !bytes.Equal(other, want) {
			t.Errorf("%s: writing into the argument shows in %x", name, other)
		}
	}
}

// P1.2: Align answers the least multiple of 8 that is not below v.
func TestAlignRoundsUp(t *testing.T) {
	for v := range uint64(70) {
		want := v
		for want%8 != 0 {
			want++
		}
		if got, ok := Align(v); !ok || got != want {
			t.Errorf("Align(%d): %d, %v; want %d", v, got, ok, want)
		}
	}
	const last = math.MaxUint64 - 7 // the greatest multiple of 8
	for v, want := range map[uint64]uint64{
		9: 16, 1<<32 - 1: 1 << 32, 1<<32 + 1: 1<<32 + 8, 1 << 53: 1 << 53, 1<<53 + 1: 1<<53 + 8,
		1<<63 - 1: 1 << 63, 1 << 63: 1 << 63, last - 8: last - 8, last - 7: last, last - 1: last, last: last,
	} {
		if got, ok := Align(v); !ok || got != want {
			t.Errorf("Align(%d): %d, %v; want %d", v, got, ok, want)
		}
	}
}

// P1.2: Align answers false where the multiple is above 2^64 - 1.
func TestAlignRefusesTooGreat(t *testing.T) {
	for d := range uint64(7) {
		if got, ok := Align(math.MaxUint64 - d); ok || got != 0 {
			t.Errorf("Align(2^64 - 1 - %d): %d, %v", d, got, ok)
		}
	}
}

// P1.2: Zero tells whether all bytes are 0, wherever one is not.
func TestZero(t *testing.T) {
	for length := range 20 {
		b := make([]byte, length, 32)
		b[:32][length] = 1 // behind the length: not looked at
		if !Zero(b) {
			t.Errorf("Zero of %d bytes 0: false", length)
		}
		for at := range b {
			for bit := range 8 {
				b[at] = 1 << bit
				if Zero(b) {
					t.Errorf("Zero of %x: true", b)
				}
			}
			b[at] = 0
		}
	}
	if !Zero(nil) {
		t.Error("Zero of nil: false")
	}
	if Zero([]byte{0xff, 1}) || Zero([]byte{0x80, 0x80}) {
		t.Error("Zero of bytes whose sum is a multiple of 256: true")
	}
}
