package obj

import (
	"bytes"
	"math"
	"slices"
	"testing"

	"diurnal/api"
)

// P7.1: the chapter's example.
func TestPutOfNothing(t *testing.T) {
	want := []byte{7, 0, 0, 0, 0, 0, 0, 0, 0x10, 0, 0, 0, 0, 0, 0, 0}
	for _, body := range [][]byte{nil, {}, wild(3)[:0]} {
		if got := Put(api.Tag, body); !bytes.Equal(got, want) {
			t.Errorf("Put of nothing: %x", got)
		}
	}
}

// P7.1: kind, seven zeros, Size, the body, and zeros up to a multiple of 8: so
// many that there are none where the body ends there.
func TestPutLaysAnObject(t *testing.T) {
	for kind := api.Data; kind <= api.Tag; kind++ {
		for n := range 70 {
			if got := Put(kind, wild(n)); !bytes.Equal(got, laid(byte(kind), wild(n))) {
				t.Errorf("Put(%d) of %d bytes: %x", kind, n, got)
			}
		}
	}
	for _, n := range []int{239, 240, 241, 4096, 65519, 65520, 65521, 1 << 20} {
		if got := Put(api.Array, wild(n)); !bytes.Equal(got, laid(api.Array, wild(n))) {
			t.Errorf("Put of %d bytes: %x ..", n, got[:16])
		}
	}
	if got := Put(api.Entry, make([]byte, 9)); len(got) != 32 || got[8] != 25 {
		t.Errorf("Put of nine zeros: %x", got)
	}
}

// P7.1: a kind that is none: nothing, also where its lowest byte is one.
func TestPutOfNoKind(t *testing.T) {
	for _, kind := range []int{math.MinInt, -256, -249, -8, -7, -1, 0, 8, 9, 128, 255, 256, 257, 263, 1<<32 + 1, math.MaxInt} {
		for _, n := range []int{0, 1, 16, 48} {
			if got := Put(kind, wild(n)); len(got) > 0 {
				t.Errorf("Put(%d) of %d bytes: %x", kind, n, got)
			}
		}
	}
}

// P7.1: what Put laid, Read reads, wherever it stands, others ahead and behind.
func TestReadOfWhatIsPut(t *testing.T) {
	for kind := api.Data; kind <= api.Tag; kind++ {
		for n := range 70 {
			for _, ahead := range []int{0, 8, 16, 24, 272} {
				b := slices.Concat(wild(ahead), Put(kind, wild(n)), wild(n%20))
				frames(t, b, uint64(ahead), kind, uint64(16+n))
			}
		}
	}
	var row []byte
	for kind := api.Data; kind <= api.Tag; kind++ {
		row = append(row, Put(kind, wild(kind*5))...)
	}
	at := 0
	for kind := api.Data; kind <= api.Tag; kind++ {
		frames(t, row, uint64(at), kind, uint64(16+kind*5))
		at += len(laid(0, wild(kind*5)))
	}
	big := Put(api.DataTable, wild(70000))
	frames(t, big, 0, api.DataTable, 70016)
}

// P7.1: a place that is no multiple of 8 is ErrAlign, however far it is, and
// also where an object stands there.
func TestReadOfPlacesBetween(t *testing.T) {
	for at := uint64(1); at < 80; at++ {
		if at%8 != 0 {
			b := append(wild(int(at)), laid(api.Data, wild(60))...)
			refused(t, b, at, api.ErrAlign)
			refused(t, b[:at], at, api.ErrAlign)
			refused(t, nil, at, api.ErrAlign)
		}
	}
	for _, at := range greats() {
		if at%8 != 0 {
			refused(t, laid(api.Data, wild(60)), at, api.ErrAlign)
		}
	}
}

// P7.1: 16 bytes from the place on are not all there: ErrRange, whatever they
// are; also where the place and 16 go round.
func TestReadOfPlacesBeyond(t *testing.T) {
	for at := uint64(0); at < 64; at += 8 {
		for n := range int(at) + 16 {
			refused(t, wild(n), at, api.ErrRange)
			refused(t, make([]byte, n), at, api.ErrRange)
			refused(t, append(wild(int(at)), laid(api.Tag, nil)...)[:n], at, api.ErrRange)
		}
	}
	b := laid(api.Data, wild(60))
	for _, at := range greats() {
		if at%8 == 0 && at > 80 {
			refused(t, b, at, api.ErrRange)
			refused(t, nil, at, api.ErrRange)
		}
	}
}

// P7.1: each kind that is none is ErrType, whatever else is amiss behind it;
// each of the others is one.
func TestReadOfKinds(t *testing.T) {
	for kind := range 256 {
		b := append(wild(8), laid(byte(kind), wild(60))...)
		if kind >= 1 && kind <= 7 {
			frames(t, b, 8, kind, 76)
			continue
		}
		refused(t, b, 8, api.ErrType)
		refused(t, spoilt(b, 9, 1), 8, api.ErrType)
		refused(t, spoilt(b, 16, eight(15)...), 8, api.ErrType)
		refused(t, spoilt(b, 16, eight(math.MaxUint64)...), 8, api.ErrType)
	}
}

// P7.1: each flags but 0 are ErrFlags, whatever else is amiss behind them.
func TestReadOfFlags(t *testing.T) {
	b := laid(api.Data, wild(60))
	for flags := 1; flags < 256; flags++ {
		c := spoilt(b, 1, byte(flags))
		refused(t, c, 0, api.ErrFlags)
		refused(t, spoilt(c, 8, eight(0)...), 0, api.ErrFlags)
		refused(t, spoilt(c, 8, eight(math.MaxUint64)...), 0, api.ErrFlags)
	}
}

// P7.1: a Size below 16 is ErrSize; one beyond the bytes is ErrRange, also
// where the place and it go round; each other one is told as it stands.
func TestReadOfSizes(t *testing.T) {
	for _, ahead := range []uint64{0, 8, 48} {
		b := append(wild(int(ahead)), laid(api.Tag, wild(60))[:76]...)
		for size := range uint64(16) {
			refused(t, spoilt(b, int(ahead)+8, eight(size)...), ahead, api.ErrSize)
		}
		for size := uint64(16); size <= 76; size++ {
			frames(t, spoilt(b, int(ahead)+8, eight(size)...), ahead, api.Tag, size)
		}
		for _, size := range append(greats(), 77, 78, 80, 76+ahead+1, 1<<32+76, -ahead, -ahead+16, -ahead+76, 1<<63+76) {
			if size > 76 {
				refused(t, spoilt(b, int(ahead)+8, eight(size)...), ahead, api.ErrRange)
			}
		}
	}
}

// P7.1: Size is a number of eight bytes, the lowest first.
func TestReadOfSizeBytes(t *testing.T) {
	b := make([]byte, 70000)
	b[0] = api.Tag
	frames(t, spoilt(b, 8, 0x11, 0x11, 1), 0, api.Tag, 0x11111)
	for i := range 8 {
		c := spoilt(spoilt(b, 8, 16), 8+i, 17)
		if i < 2 {
			frames(t, c, 0, api.Tag, []uint64{17, 0x1110}[i])
			continue
		}
		refused(t, c, 0, api.ErrRange)
	}
}

// P7.1: the six bytes, and the zeros behind, are not looked at: they may be
// others, and the zeros may be missing.
func TestReadLooksNotAtAllBytes(t *testing.T) {
	for n := range 20 {
		b := laid(api.Field, wild(n))
		size := uint64(16 + n)
		for i := 2; i < 8; i++ {
			frames(t, spoilt(b, i, 0xff), 0, api.Field, size)
		}
		frames(t, spoilt(b, 2, 1, 2, 3, 4, 5, 6), 0, api.Field, size)
		for end := int(size); end <= len(b); end++ {
			frames(t, b[:end], 0, api.Field, size)
		}
		for i := int(size); i < len(b); i++ {
			frames(t, spoilt(b, i, 0xff), 0, api.Field, size)
		}
		refused(t, b[:size-1], 0, api.ErrRange)
	}
}

// reckoned answers the code of Read by the chapter's words.
func reckoned(b []byte, at int) int {
	if at%8 != 0 {
		return api.ErrAlign
	}
	if at+16 > len(b) {
		return api.ErrRange
	}
	if b[at] < 1 || b[at] > 7 {
		return api.ErrType
	}
	if b[at+1] != 0 {
		return api.ErrFlags
	}
	if b[at+8] < 16 {
		return api.ErrSize
	}
	if at+int(b[at+8]) > len(b) {
		return api.ErrRange
	}
	return api.Fine
}

// P7.1, P0.2: where several things are amiss, the first of the sentence is
// told.
func TestReadTellsTheFirstThatIsAmiss(t *testing.T) {
	for _, n := range []int{0, 15, 16, 23, 24, 31, 32, 39, 40, 48} {
		for _, at := range []int{0, 4, 8, 9, 16, 24, 32} {
			for _, kind := range []byte{0, 1, 7, 8} {
				for _, flags := range []byte{0, 1, 0x80} {
					for _, size := range []byte{0, 15, 16, 17, 24, 32, 33, 200} {
						whole := append(wild(at), kind, flags, 1, 2, 3, 4, 5, 6, size, 0, 0, 0, 0, 0, 0, 0)
						whole = append(whole, wild(40)...)
						b := whole[:n]
						if code := reckoned(b, at); code != api.Fine {
							refused(t, b, uint64(at), code)
							continue
						}
						frames(t, b, uint64(at), int(kind), uint64(size))
					}
				}
			}
		}
	}
}

// P0.4: what is handed in is not changed, and what lies behind its length
// neither read nor written.
func TestFramesLeaveSpareRoomAlone(t *testing.T) {
	for n := range 40 {
		room := wild(60)
		if got := Put(api.Data, room[:n]); !bytes.Equal(got, laid(api.Data, wild(n))) {
			t.Errorf("Put of %d bytes with others behind: %x", n, got)
		}
		if !bytes.Equal(room, wild(60)) {
			t.Errorf("Put of %d bytes changed what it was handed", n)
		}
		room = append(laid(api.Data, wild(n)), wild(40)...)
		whole := bytes.Clone(room)
		frames(t, room[:16+n], 0, api.Data, uint64(16+n))
		refused(t, room[:16+n-1], 0, api.ErrRange)
		refused(t, room[:15], 0, api.ErrRange)
		if !bytes.Equal(room, whole) {
			t.Errorf("Read of %d bytes changed what it was handed", 16+n)
		}
	}
}

// P0.4: each list handed out is new memory, its spare room too.
func TestPutSharesNoMemory(t *testing.T) {
	for n := range 40 {
		body := wild(n)
		one, other := Put(api.Entry, body), Put(api.Entry, body)
		one = one[:cap(one)]
		for i := range one {
			one[i] = 0xee
		}
		if !bytes.Equal(body, wild(n)) || !bytes.Equal(other, laid(api.Entry, wild(n))) {
			t.Errorf("writing into an object of %d bytes shows in %x, %x", n, body, other)
		}
		clear(body)
		if !bytes.Equal(other, laid(api.Entry, wild(n))) {
			t.Errorf("writing into a body of %d bytes shows in %x", n, other)
		}
	}
}
