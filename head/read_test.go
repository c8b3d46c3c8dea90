package head

import (
	"bytes"
	"math"
	"slices"
	"testing"

	"diurnal/api"
)

// P9.2: a head is read as it stands, whatever stands behind it, and behind its
// end.
func TestRead(t *testing.T) {
	for _, n := range []int{room, room + 1, room + 7, room + 8, room + 1000} {
		isRead(t, file(journal(), n), journal())
	}
}

// P9.2: fewer bytes than a head has are ErrShort, whatever they are.
func TestReadOfFewBytes(t *testing.T) {
	isRefused(t, nil, api.ErrShort)
	isRefused(t, []byte{}, api.ErrShort)
	wrong := func(h *Head) { h.Incompat, h.State, h.Size = 1, 9, 0 }
	for n := range 272 {
		isRefused(t, file(journal(), n), api.ErrShort)
		isRefused(t, file(turned(wrong), n), api.ErrShort)
		isRefused(t, make([]byte, n), api.ErrShort)
	}
}

// P9.2: from a whole head on, up to the end, it is ErrRange.
func TestReadOfBytesThatEndEarly(t *testing.T) {
	for n := 272; n < room; n++ {
		isRefused(t, file(journal(), n), api.ErrRange)
	}
}

// P9.2: any other signature is ErrMagic, whatever else is amiss.
func TestReadOfAnotherSignature(t *testing.T) {
	whole := file(journal(), room)
	for at := range 8 {
		for bit := range 8 {
			isRefused(t, spoilt(whole, at, whole[at]^1<<bit), api.ErrMagic)
		}
	}
	for _, n := range []int{272, 273, room} {
		isRefused(t, make([]byte, n), api.ErrMagic)
		isRefused(t, bytes.Repeat([]byte{0xff}, n), api.ErrMagic)
	}
	isRefused(t, append([]byte{0}, whole...), api.ErrMagic)
	isRefused(t, spoilt(whole, 0, []byte("HRHHSKPL")...), api.ErrMagic)
	isRefused(t, spoilt(whole, 0, []byte("lpkshhrh")...), api.ErrMagic)
}

// P9.2: Keyed is the one incompatible flag that may be, and need not.
func TestReadOfFlags(t *testing.T) {
	for _, keyed := range []uint32{0, 4} {
		h := turned(func(h *Head) { h.Incompat = keyed })
		isRead(t, file(h, room), h)
		for bit := range 32 {
			if bit != 2 {
				h.Incompat = keyed | 1<<bit
				isRefused(t, file(h, room), api.ErrFlags)
			}
		}
	}
	for _, flags := range []uint32{3, 5, 6, 7, 12, math.MaxUint32 &^ 4, math.MaxUint32} {
		isRefused(t, file(turned(func(h *Head) { h.Incompat = flags }), room), api.ErrFlags)
	}
	if api.Keyed != 4 {
		t.Error("Keyed is another flag")
	}
}

// P9.2: any compatible flags may be.
func TestReadOfCompatibleFlags(t *testing.T) {
	for _, flags := range []uint32{0, 1, 2, 4, 8, 1 << 31, math.MaxUint32} {
		h := turned(func(h *Head) { h.Compat = flags })
		isRead(t, file(h, room), h)
	}
}

// P9.2: of all bytes three are states.
func TestReadOfStates(t *testing.T) {
	for state := range 256 {
		h := turned(func(h *Head) { h.State = state })
		if state <= 2 {
			isRead(t, file(h, room), h)
			continue
		}
		isRefused(t, file(h, room), api.ErrState)
	}
	if api.Offline != 0 || api.Online != 1 || api.Archived != 2 {
		t.Error("the states are others")
	}
}

// P9.2: the seven bytes behind the state are not looked at.
func TestReadOfTheSevenBytes(t *testing.T) {
	whole := file(journal(), room)
	isRead(t, spoilt(whole, 17, bytes.Repeat([]byte{0xff}, 7)...), journal())
	for at := 17; at < 24; at++ {
		isRead(t, spoilt(whole, at, 1), journal())
	}
}

// P9.2: all else is told as it stands, each byte of it.
func TestReadOfAllElse(t *testing.T) {
	for at := 8; at < 272; at++ {
		if at >= 12 && at < 24 || at >= 88 && at < 136 {
			continue // what may be amiss, and the seven bytes
		}
		for _, v := range []byte{0, 1, 0x80, 0xff} {
			b := spoilt(file(journal(), room), at, v)
			h, code := Read(b)
			if code != api.Fine || !bytes.Equal(laid(h), b[:272]) {
				t.Errorf("Read with %#x at %d: %+v, %d", v, at, h, code)
			}
		}
	}
	bare := Head{Size: 272, Arena: 64, DataTable: 288, DataSize: 16, FieldTable: 320, FieldSize: 16}
	isRead(t, file(bare, 336), bare)
}

// P9.2: Size is a multiple of 8, HeadSize at least; Arena is one, 0 too.
func TestReadOfSizes(t *testing.T) {
	for size := range uint64(room + 9) {
		h := turned(func(h *Head) {
			h.Size, h.Arena = size, 4096
			h.DataTable, h.FieldTable = 1024, 2048
		})
		if size < 272 || size%8 != 0 {
			isRefused(t, file(h, 8192), api.ErrSize)
			continue
		}
		isRead(t, file(h, 8192), h)
	}
	for arena := uint64(room - 272); arena < room; arena++ {
		h := turned(func(h *Head) { h.Arena = arena })
		if arena%8 != 0 {
			isRefused(t, file(h, 8192), api.ErrSize)
			continue
		}
		isRead(t, file(h, 8192), h)
	}
	// Without an arena there is no room for tables.
	isRefused(t, file(turned(func(h *Head) { h.Arena = 0 }), 272), api.ErrRange)
}

// P9.2: an end beyond the bytes is ErrRange, one above 2^64 - 1 too.
func TestReadOfEnds(t *testing.T) {
	const last = math.MaxUint64 - 7 // the greatest multiple of 8
	for _, c := range [][2]uint64{
		{272, room - 272 + 8}, {280, room - 272}, {room, 8}, {room + 8, 0}, {1 << 32, 0}, {272, 1 << 32}, {1 << 63, 0},
		{272, 1 << 63}, {1 << 63, 1 << 63}, {1 << 63, 1<<63 + 272}, {272, last - 272}, {272, last - 264}, {272, last},
		{last, 0}, {last, 8}, {last, 272 + 8}, {last, room + 8}, {room, last}, {last, last},
	} {
		h := turned(func(h *Head) { h.Size, h.Arena = c[0], c[1] })
		isRefused(t, file(h, room), api.ErrRange)
		// It is told ahead of what is amiss with the tables.
		h.DataTable, h.DataSize, h.FieldTable = 4, 0, 4
		isRefused(t, file(h, room), api.ErrRange)
	}
}

// tables answers what sets the place and the size of each table.
func tables() []func(*Head, uint64, uint64) {
	return []func(*Head, uint64, uint64){
		func(h *Head, at, size uint64) { h.DataTable, h.DataSize = at, size },
		func(h *Head, at, size uint64) { h.FieldTable, h.FieldSize = at, size },
	}
}

// P9.2: of each place and size of a table about a journal's ends: ErrAlign,
// then ErrSize, then ErrRange, else it is told.
func TestReadOfTables(t *testing.T) {
	for _, set := range tables() {
		for at := uint64(256); at <= room+16; at++ {
			for _, size := range []uint64{0, 1, 8, 15, 16, 17, 24, 32, room - 304, room - 288, room - 272, room, room - at, room - at + 16} {
				h := turned(func(h *Head) { set(h, at, size) })
				b := file(h, room+64)
				switch {
				case at%8 != 0:
					isRefused(t, b, api.ErrAlign)
				case size == 0 || size%16 != 0:
					isRefused(t, b, api.ErrSize)
				case at < 288 || size > room || at+size > room:
					isRefused(t, b, api.ErrRange)
				default:
					isRead(t, b, h)
				}
			}
		}
	}
}

// P9.2: a table's place is at least 16 behind Size, not behind a head's bytes.
func TestReadOfTablesBehindSize(t *testing.T) {
	for _, set := range tables() {
		for at := uint64(272); at <= 360; at += 8 {
			h := turned(func(h *Head) {
				h.Size, h.Arena = 320, 512
				h.DataTable, h.FieldTable = 400, 600
				set(h, at, 16)
			})
			if at < 336 {
				isRefused(t, file(h, 2048), api.ErrRange)
				continue
			}
			isRead(t, file(h, 2048), h)
		}
	}
}

// P9.2: places and sizes whose sum would wrap round are ErrRange.
func TestReadOfTablesThatWrapRound(t *testing.T) {
	// The greatest multiples of 8, of 16.
	const last, most = math.MaxUint64 - 7, math.MaxUint64 - 15
	for _, set := range tables() {
		for _, c := range [][2]uint64{
			{288, most}, {296, most}, {304, most - 16}, {304, most - 288}, {288, most - 272}, {296, 1 << 63}, {1 << 63, 1 << 63},
			{last, 16}, {last, 304}, {last, most}, {last - 8, 16}, {last - 8, 304}, {last - 8, most}, {1 << 63, 16}, {0, 16},
		} {
			h := turned(func(h *Head) { set(h, c[0], c[1]) })
			isRefused(t, file(h, room), api.ErrRange)
		}
	}
}

// P9.2: where the tables stand to each other is not looked at.
func TestReadOfTablesUponEachOther(t *testing.T) {
	for _, c := range [][4]uint64{{296, 48, 296, 48}, {304, 16, 288, 32}, {432, 80, 288, 16}, {288, room - 288, 288, room - 288}} {
		h := turned(func(h *Head) { h.DataTable, h.DataSize, h.FieldTable, h.FieldSize = c[0], c[1], c[2], c[3] })
		isRead(t, file(h, room), h)
	}
}

// P9.2, P0.2: of any two things amiss, the one that is named first is told.
func TestReadTellsTheFirst(t *testing.T) {
	faults := []struct {
		code int
		turn func(*Head)
	}{
		{api.ErrFlags, func(h *Head) { h.Incompat = 1 }},
		{api.ErrState, func(h *Head) { h.State = 3 }},
		{api.ErrSize, func(h *Head) { h.Arena |= 1 }},
		{api.ErrRange, func(h *Head) { h.Arena += 1 << 20 }},
		{api.ErrAlign, func(h *Head) { h.DataTable |= 4 }},
		{api.ErrSize, func(h *Head) { h.DataSize |= 8 }},
		{api.ErrRange, func(h *Head) { h.DataTable += 1 << 30 }},
		{api.ErrAlign, func(h *Head) { h.FieldTable |= 4 }},
		{api.ErrSize, func(h *Head) { h.FieldSize |= 8 }},
		{api.ErrRange, func(h *Head) { h.FieldTable += 1 << 30 }},
	}
	for i, one := range faults {
		for _, other := range faults[i:] {
			for _, both := range []Head{
				turned(func(h *Head) { one.turn(h); other.turn(h) }),
				turned(func(h *Head) { other.turn(h); one.turn(h) }),
			} {
				isRefused(t, file(both, room), one.code)
				isRefused(t, spoilt(file(both, room), 0, 'l'), api.ErrMagic)
				isRefused(t, file(both, 271), api.ErrShort)
			}
		}
		rest := journal()
		for _, other := range faults[i:] {
			other.turn(&rest)
		}
		isRefused(t, file(rest, room), one.code)
	}
}

// P9.2, P0.6: of any numbers in the places that are looked at, the chapter's
// words hold, their sums meant without bounds.
func TestReadOfAnyNumbers(t *testing.T) {
	sizes := append(greats(), 264, 272, 276, 280, 320)
	places := append(greats(), 272, 280, 288, 292, 296, 432, 496, room)
	right := 0
	try := func(turn func(*Head)) {
		h := turned(turn)
		want := told(h, room)
		if want == api.Fine {
			right++
			isRead(t, file(h, room), h)
			return
		}
		isRefused(t, file(h, room), want)
	}
	for _, a := range places {
		for _, b := range slices.Concat(sizes, places, []uint64{24, 32, 192, 208, 224, 240, 248, 256}) {
			try(func(h *Head) { h.Size, h.Arena = a, b })
			try(func(h *Head) { h.DataTable, h.DataSize = a, b })
			try(func(h *Head) { h.FieldTable, h.FieldSize = a, b })
			try(func(h *Head) { h.DataTable, h.FieldSize = a, b })
			try(func(h *Head) { h.Arena, h.FieldTable = a, b })
		}
	}
	if right < 20 {
		t.Errorf("no more than %d heads were right", right)
	}
}

// P0.4: what is handed in is not changed, and what lies behind its length not
// read.
func TestReadLeavesTheBytesAlone(t *testing.T) {
	full := file(journal(), room+64)
	b := bytes.Clone(full)
	for n := range room {
		want := api.ErrRange
		if n < 272 {
			want = api.ErrShort
		}
		isRefused(t, b[:n], want)
	}
	isRead(t, b[:room], journal())
	if !bytes.Equal(b, full) {
		t.Error("Read changed what it was handed")
	}
	h, _ := Read(b)
	clear(b)
	if h != journal() {
		t.Errorf("writing into the bytes shows in %+v", h)
	}
}

// P0.1: whatever bytes stand there, Read ends, and tells nothing beside a code.
func TestReadOfAnyBytes(t *testing.T) {
	seed := uint64(1)
	next := func() byte {
		seed = seed*6364136223846793005 + 1442695040888963407
		return byte(seed >> 56)
	}
	for range 20000 {
		b := file(journal(), room)
		for range 1 + next()%3 {
			b[8+int(next())] = next() // one of those behind the signature
		}
		h, code := Read(b)
		b = slices.Concat(b[:17], make([]byte, 7), b[24:])
		if code == api.Fine && !bytes.Equal(laid(h), b[:272]) || code != api.Fine && h != (Head{}) {
			t.Fatalf("Read of %x: %+v, %d", b[:272], h, code)
		}
	}
}
