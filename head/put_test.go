package head

import (
	"bytes"
	"math"
	"math/big"
	"testing"

	"diurnal/api"
)

// P9.1: a head by its bytes, written out.
func TestPutByItsBytes(t *testing.T) {
	want := "LPKSHHRH" + "\x11\x12\x13\x14" + "\x21\x22\x23\x24" + "\x31\x00\x00\x00\x00\x00\x00\x00" +
		"ABCDEFGHIJKLMNOP" + "abcdefghijklmnop" + "PONMLKJIHGFEDCBA" + "ponmlkjihgfedcba"
	for v := byte(0x41); v <= 0x55; v++ {
		want += string([]byte{v}) + "\x02\x03\x04\x05\x06\x07\x48"
	}
	want += "\x61\x62\x63\x64" + "\x71\x72\x73\x74" + "\x81\x82\x83\x84\x85\x86\x87\x88"
	if got := Put(unlike()); string(got) != want {
		t.Errorf("Put: %q; want %q", got, want)
	}
	if len(want) != 272 || api.HeadSize != 272 {
		t.Errorf("a head has %d bytes, and %d", len(want), api.HeadSize)
	}
}

// P9.1: of noughts, the signature alone; what Read refuses is put all the same.
func TestPutOfNoughts(t *testing.T) {
	if got := Put(Head{}); !bytes.Equal(got, append([]byte("LPKSHHRH"), make([]byte, 264)...)) {
		t.Errorf("Put of noughts: %x", got)
	}
}

// P9.1: each part stands where the chapter says, and nowhere else.
func TestPutOfEachPart(t *testing.T) {
	for _, c := range []struct {
		at, n int
		turn  func(*Head)
	}{
		{8, 4, func(h *Head) { h.Compat = math.MaxUint32 }},
		{12, 4, func(h *Head) { h.Incompat = math.MaxUint32 }},
		{16, 1, func(h *Head) { h.State = 0xff }},
		{24, 16, func(h *Head) { fill(&h.File) }},
		{40, 16, func(h *Head) { fill(&h.Machine) }},
		{56, 16, func(h *Head) { fill(&h.Boot) }},
		{72, 16, func(h *Head) { fill(&h.Seq) }},
		{88, 8, func(h *Head) { h.Size = math.MaxUint64 }},
		{96, 8, func(h *Head) { h.Arena = math.MaxUint64 }},
		{104, 8, func(h *Head) { h.DataTable = math.MaxUint64 }},
		{112, 8, func(h *Head) { h.DataSize = math.MaxUint64 }},
		{120, 8, func(h *Head) { h.FieldTable = math.MaxUint64 }},
		{128, 8, func(h *Head) { h.FieldSize = math.MaxUint64 }},
		{136, 8, func(h *Head) { h.TailObject = math.MaxUint64 }},
		{144, 8, func(h *Head) { h.Objects = math.MaxUint64 }},
		{152, 8, func(h *Head) { h.Entries = math.MaxUint64 }},
		{160, 8, func(h *Head) { h.TailSeq = math.MaxUint64 }},
		{168, 8, func(h *Head) { h.HeadSeq = math.MaxUint64 }},
		{176, 8, func(h *Head) { h.Array = math.MaxUint64 }},
		{184, 8, func(h *Head) { h.HeadReal = math.MaxUint64 }},
		{192, 8, func(h *Head) { h.TailReal = math.MaxUint64 }},
		{200, 8, func(h *Head) { h.TailMono = math.MaxUint64 }},
		{208, 8, func(h *Head) { h.Datas = math.MaxUint64 }},
		{216, 8, func(h *Head) { h.Fields = math.MaxUint64 }},
		{224, 8, func(h *Head) { h.Tags = math.MaxUint64 }},
		{232, 8, func(h *Head) { h.Arrays = math.MaxUint64 }},
		{240, 8, func(h *Head) { h.DataDepth = math.MaxUint64 }},
		{248, 8, func(h *Head) { h.FieldDepth = math.MaxUint64 }},
		{256, 4, func(h *Head) { h.TailArray = math.MaxUint32 }},
		{260, 4, func(h *Head) { h.TailItems = math.MaxUint32 }},
		{264, 8, func(h *Head) { h.TailEntry = math.MaxUint64 }},
	} {
		var h Head
		c.turn(&h)
		want := spoilt(Put(Head{}), c.at, bytes.Repeat([]byte{0xff}, c.n)...)
		if got := Put(h); !bytes.Equal(got, want) {
			t.Errorf("Put of the part at %d: %x", c.at, got)
		}
	}
}

func fill(id *api.ID) {
	for i := range id {
		id[i] = 0xff
	}
}

// P9.1: of State its lowest byte alone stands there.
func TestPutOfAnyState(t *testing.T) {
	for _, state := range []int{math.MinInt, math.MinInt + 2, -257, -256, -2, -1, 0, 1, 2, 3, 255, 256, 257, 258, 0x1234, 1<<32 + 1, math.MaxInt} {
		h := journal()
		h.State = state
		if got := Put(h); !bytes.Equal(got, spoilt(laid(journal()), 16, byte(state))) {
			t.Errorf("Put of State %d: %x", state, got[16:24])
		}
	}
}

// P9.1, P9.2: what is put is read.
func TestReadOfWhatIsPut(t *testing.T) {
	for _, state := range []int{api.Offline, api.Online, api.Archived} {
		h := journal()
		h.State = state
		isRead(t, append(Put(h), make([]byte, room-272)...), h)
		far := h
		far.State += 256 // the lowest byte alone is told
		isRead(t, append(Put(far), make([]byte, room-272)...), h)
	}
}

// P0.4: each answer of Put is new memory, its spare room too.
func TestPutSharesNoMemory(t *testing.T) {
	one, other := Put(unlike()), Put(unlike())
	one = one[:cap(one)]
	for i := range one {
		one[i] = 0xee
	}
	if !bytes.Equal(other, laid(unlike())) || !bytes.Equal(Put(unlike()), laid(unlike())) {
		t.Errorf("writing into a head shows in %x", other)
	}
	if h := unlike(); h != unlike() || !bytes.Equal(Put(h), laid(h)) || h != unlike() {
		t.Errorf("Put changed what it was handed: %+v", h)
	}
}

// P9.1: End is Size and Arena, and false where that is above 2^64 - 1.
func TestEnd(t *testing.T) {
	highest := sum(math.MaxUint64, 0)
	for _, size := range append(greats(), 272) {
		for _, arena := range append(greats(), 64) {
			want := sum(size, arena)
			ok := !above(want, highest)
			if !ok {
				want = new(big.Int)
			}
			h := unlike() // nothing else of a head counts
			h.Size, h.Arena = size, arena
			if got, is := End(h); is != ok || got != want.Uint64() {
				t.Errorf("End of Size %d, Arena %d: %d, %v; want %v, %v", size, arena, got, is, want, ok)
			}
		}
	}
}

// P9.1: End at the very edge.
func TestEndAtTheHighest(t *testing.T) {
	for _, size := range []uint64{0, 1, 8, 272, 1 << 63, math.MaxUint64 - 1, math.MaxUint64} {
		arena := math.MaxUint64 - size
		if got, ok := End(Head{Size: size, Arena: arena}); !ok || got != math.MaxUint64 {
			t.Errorf("End of Size %d, Arena %d: %d, %v", size, arena, got, ok)
		}
		if size == 0 {
			continue
		}
		if got, ok := End(Head{Size: size, Arena: arena + 1}); ok || got != 0 {
			t.Errorf("End of Size %d, Arena %d: %d, %v", size, arena+1, got, ok)
		}
	}
	if got, ok := End(Head{}); !ok || got != 0 {
		t.Errorf("End of noughts: %d, %v", got, ok)
	}
}
