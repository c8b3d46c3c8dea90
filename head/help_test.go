package head

import (
	"bytes"
	"math"
	"math/big"
	"slices"
	"testing"

	"diurnal/api"
)

// greats answers numbers about the ends of all widths.
func greats() []uint64 {
	return []uint64{0, 1, 7, 8, 16, 0xff, 0x100, 0xffff, math.MaxUint32, 1 << 32, math.MaxInt64, 1 << 63,
		math.MaxUint64 - 16, math.MaxUint64 - 15, math.MaxUint64 - 8, math.MaxUint64 - 7, math.MaxUint64 - 1, math.MaxUint64}
}

// low answers the n lowest bytes of v, the lowest first.
func low(n int, v uint64) []byte {
	var b []byte
	for i := range n {
		b = append(b, byte(v>>(8*i)))
	}
	return b
}

// laid answers h as it stands in bytes, by the chapter's words.
func laid(h Head) []byte {
	b := slices.Concat([]byte("LPKSHHRH"), low(4, uint64(h.Compat)), low(4, uint64(h.Incompat)),
		low(1, uint64(h.State)), make([]byte, 7), h.File[:], h.Machine[:], h.Boot[:], h.Seq[:])
	for _, v := range []uint64{
		h.Size, h.Arena, h.DataTable, h.DataSize, h.FieldTable, h.FieldSize, h.TailObject, h.Objects, h.Entries,
		h.TailSeq, h.HeadSeq, h.Array, h.HeadReal, h.TailReal, h.TailMono, h.Datas, h.Fields, h.Tags, h.Arrays,
		h.DataDepth, h.FieldDepth,
	} {
		b = append(b, low(8, v)...)
	}
	return slices.Concat(b, low(4, uint64(h.TailArray)), low(4, uint64(h.TailItems)), low(8, h.TailEntry))
}

// unlike answers a head whose bytes are all unlike those beside them.
func unlike() Head {
	return Head{
		Compat: 0x14131211, Incompat: 0x24232221, State: 0x31,
		File: api.ID([]byte("ABCDEFGHIJKLMNOP")), Machine: api.ID([]byte("abcdefghijklmnop")),
		Boot: api.ID([]byte("PONMLKJIHGFEDCBA")), Seq: api.ID([]byte("ponmlkjihgfedcba")),
		Size: 0x4807060504030241, Arena: 0x4807060504030242, DataTable: 0x4807060504030243, DataSize: 0x4807060504030244,
		FieldTable: 0x4807060504030245, FieldSize: 0x4807060504030246, TailObject: 0x4807060504030247,
		Objects: 0x4807060504030248, Entries: 0x4807060504030249, TailSeq: 0x480706050403024a, HeadSeq: 0x480706050403024b,
		Array: 0x480706050403024c, HeadReal: 0x480706050403024d, TailReal: 0x480706050403024e, TailMono: 0x480706050403024f,
		Datas: 0x4807060504030250, Fields: 0x4807060504030251, Tags: 0x4807060504030252, Arrays: 0x4807060504030253,
		DataDepth: 0x4807060504030254, FieldDepth: 0x4807060504030255,
		TailArray: 0x64636261, TailItems: 0x74737271, TailEntry: 0x8887868584838281,
	}
}

// room is the end that journal's head tells of.
const room = 272 + 240

// journal answers a head that is right where room bytes are: a table of 3
// slots, then one of 5, which ends it, and a gap ahead of each.
func journal() Head {
	h := unlike()
	h.Incompat, h.State = api.Keyed, api.Online
	h.Size, h.Arena = 272, room-272
	h.DataTable, h.DataSize = 296, 48
	h.FieldTable, h.FieldSize = room-80, 80
	return h
}

// turned answers journal's head with something of it turned.
func turned(turn func(*Head)) Head {
	h := journal()
	turn(&h)
	return h
}

// file answers the n bytes of a file that begins with h; those behind it are
// not 0.
func file(h Head, n int) []byte {
	b := append(laid(h), bytes.Repeat([]byte{0xa5}, n)...)
	return b[:n:n]
}

// spoilt answers b with v at the place at.
func spoilt(b []byte, at int, v ...byte) []byte {
	out := bytes.Clone(b)
	copy(out[at:], v)
	return out
}

// isRead tells where Read does not answer h.
func isRead(t *testing.T, b []byte, h Head) {
	t.Helper()
	if got, code := Read(b); code != api.Fine || got != h {
		t.Errorf("Read of %d bytes: %+v, %d; want %+v", len(b), got, code, h)
	}
}

// isRefused tells where Read does not tell the code, with nothing beside.
func isRefused(t *testing.T, b []byte, code int) {
	t.Helper()
	if got, is := Read(b); is != code || got != (Head{}) {
		t.Errorf("Read of %d bytes: %+v, %d; want %d", len(b), got, is, code)
	}
}

// sum answers a and b without bounds.
func sum(a, b uint64) *big.Int {
	x, y := new(big.Int).SetUint64(a), new(big.Int).SetUint64(b)
	return x.Add(x, y)
}

// above tells whether a is above b.
func above(a, b *big.Int) bool {
	return a.Cmp(b) > 0
}

// told answers the code of a file of n bytes with the head h, by the
// chapter's words, one after the other.
func told(h Head, n int) int {
	end := sum(h.Size, h.Arena)
	if n < 272 {
		return api.ErrShort
	}
	if h.Incompat != 0 && h.Incompat != 4 {
		return api.ErrFlags
	}
	if h.State < 0 || h.State > 2 {
		return api.ErrState
	}
	if h.Size < 272 || h.Size%8 > 0 || h.Arena%8 > 0 {
		return api.ErrSize
	}
	if above(end, big.NewInt(int64(n))) {
		return api.ErrRange
	}
	for _, table := range [][2]uint64{{h.DataTable, h.DataSize}, {h.FieldTable, h.FieldSize}} {
		at, size := table[0], table[1]
		if at%8 > 0 {
			return api.ErrAlign
		}
		if size == 0 || size%16 > 0 {
			return api.ErrSize
		}
		if above(sum(h.Size, 16), sum(at, 0)) || above(sum(at, size), end) {
			return api.ErrRange
		}
	}
	return api.Fine
}
