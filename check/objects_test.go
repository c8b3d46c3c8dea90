package check

import (
	"math"
	"slices"
	"testing"

	"diurnal/api"
	"diurnal/head"
	"diurnal/le"
	"diurnal/obj"
)

// with answers b with the lowest n bytes of v from that place on.
func with(b []byte, at uint64, n int, v uint64) []byte {
	out, _ := le.Put(b, int(at), n, v)
	return out
}

// P14.1: each object's place is behind the one ahead: its Size, up to a multiple
// of 8.
func TestObjectsOneBehindTheOther(t *testing.T) {
	isObjects(t, "a new journal", none(t).bytes(), api.Fine, 272, 336)
	s := none(t)
	s.h.FieldTable, s.h.FieldSize = s.h.DataTable, s.h.DataSize
	b := s.bytes()[:336]
	isObjects(t, "one object alone", with(b, 96, 8, 64), api.Fine, 272)
	one := written(t, config(3, 2, true), []string{"A=1"})
	isObjects(t, "a journal of one entry", one, api.Fine, 272, 336, 384, 456, 504, 584)
	s = none(t)
	want := []uint64{272, 336, 384}
	for size := range 26 {
		s.lay(obj.Put(api.Tag, make([]byte, size)))
		want = append(want, want[len(want)-1]+16+uint64(size+7)/8*8)
	}
	isObjects(t, "tags of each size", s.bytes(), api.Fine, want[:len(want)-1]...)
	s = some(t)
	isObjects(t, "a journal of eight entries", s.bytes(), api.Fine, s.at...)
}

// P14.1: they begin at Head's Size, whatever stands ahead.
func TestObjectsFromHeadsSizeOn(t *testing.T) {
	for _, pad := range [][]byte{make([]byte, 8), make([]byte, 64), obj.Put(api.Tag, nil), obj.Put(api.DataTable, make([]byte, 48))} {
		s := none(t)
		s.pad = pad
		more := uint64(len(pad))
		s.h.Size += more
		s.h.DataTable += more
		s.h.FieldTable += more
		s.end += more
		isObjects(t, "a longer head", s.bytes(), api.Fine, 272+more, 336+more)
	}
}

// P14.1: up to the end alone; a last one may end within the 8 bytes ahead of it.
func TestObjectsUpToTheEnd(t *testing.T) {
	s := none(t)
	for size := uint64(1); size <= 9; size++ {
		x := none(t)
		at := x.lay(obj.Put(api.Tag, make([]byte, size)))
		isObjects(t, "a last one of any size", x.bytes(), api.Fine, 272, 336, at)
	}
	b := s.bytes()
	for _, more := range [][]byte{{1}, {1, 2, 3}, make([]byte, 100), obj.Put(api.Tag, nil), {255, 255, 255, 255, 255, 255, 255, 255, 255}} {
		isObjects(t, "bytes behind the end", slices.Concat(b, more), api.Fine, 272, 336)
	}
	at := s.lay(obj.Put(api.Tag, make([]byte, 8)))
	b = with(s.bytes(), at+8, 8, 25)
	isObjects(t, "one beyond the end", b, api.ErrRange)
	isObjects(t, "one beyond the end, with bytes behind", slices.Concat(b, make([]byte, 100)), api.ErrRange)
	s.lay(make([]byte, 8))
	isObjects(t, "eight bytes left", slices.Concat(s.bytes(), make([]byte, 100)), api.ErrRange)
}

// P14.1: arena.Open's code, ahead of any object's.
func TestObjectsOfNoJournal(t *testing.T) {
	right := some(t).bytes()
	isObjects(t, "nothing", nil, api.ErrShort)
	isObjects(t, "no bytes", []byte{}, api.ErrShort)
	isObjects(t, "too few bytes", right[:271], api.ErrShort)
	isObjects(t, "a head alone", right[:272], api.ErrRange)
	isObjects(t, "one byte less", right[:len(right)-1], api.ErrRange)
	for i, c := range []struct {
		at, v uint64
		n     int
		code  int
	}{
		{0, 'l', 1, api.ErrMagic}, {12, 1, 4, api.ErrFlags}, {16, 3, 1, api.ErrState}, {88, 264, 8, api.ErrSize},
		{88, 273, 8, api.ErrSize}, {96, 4, 8, api.ErrSize}, {96, math.MaxUint64 - 7, 8, api.ErrRange},
		{104, 289, 8, api.ErrAlign}, {112, 0, 8, api.ErrSize}, {120, 280, 8, api.ErrRange},
	} {
		b := with(with(right, c.at, c.n, c.v), 272, 1, 9)
		isObjects(t, "a wrong head, of a wrong object", b, c.code)
		isCheck(t, "a wrong head, of a wrong object", b, 0, c.code)
		if _, code := head.Read(b); code != c.code {
			t.Errorf("case %d is no wrong head: %d", i, code)
		}
	}
}

// P14.1: obj.Read's code of the first object that has one; nothing beside it.
func TestObjectsOfWrongOnes(t *testing.T) {
	s := some(t)
	right := s.bytes()
	for i, at := range s.at {
		for _, c := range []struct {
			off, v uint64
			n      int
			code   int
		}{
			{0, 0, 1, api.ErrType}, {0, 8, 1, api.ErrType}, {0, 255, 1, api.ErrType}, {1, 1, 1, api.ErrFlags},
			{1, 128, 1, api.ErrFlags}, {8, 0, 8, api.ErrSize}, {8, 15, 8, api.ErrSize}, {8, s.end - at + 1, 8, api.ErrRange},
			{8, 1 << 32, 8, api.ErrRange}, {8, math.MaxUint64, 8, api.ErrRange}, {8, math.MaxUint64 - 7, 8, api.ErrRange},
		} {
			b := with(right, at+c.off, c.n, c.v)
			isObjects(t, "a wrong object", b, c.code)
			isObjects(t, "a wrong object, with bytes behind", slices.Concat(b, make([]byte, 100)), c.code)
			isCheck(t, "a wrong object", b, 0, c.code)
			if i > 0 {
				isObjects(t, "two wrong objects", with(b, s.at[i-1]+1, 1, 1), api.ErrFlags)
			}
		}
	}
}

// P14.1: a Size other than the right one lets the next object stand elsewhere.
func TestObjectsOfAnotherSize(t *testing.T) {
	s := some(t)
	_, at := s.field("A")
	i := slices.Index(s.at, at)
	right := s.bytes()
	for size := s.at[i+1] - at - 7; size <= s.at[i+1]-at; size++ {
		isObjects(t, "a Size that ends within the same 8", with(right, at+8, 8, size), api.Fine, s.at...)
	}
	isObjects(t, "a Size that goes on behind the next one", with(right, at+8, 8, s.at[i+2]-at), api.Fine, slices.Delete(slices.Clone(s.at), i+1, i+2)...)
	isObjects(t, "a Size up to the end", with(right, at+8, 8, s.end-at), api.Fine, s.at[:i+1]...)
	tag := s.lay(obj.Put(api.Tag, slices.Concat(obj.Put(api.Tag, nil), obj.Put(api.Tag, nil))))
	isObjects(t, "tags within a tag", s.bytes(), api.Fine, s.at...)
	isObjects(t, "a Size that ends ahead of them", with(s.bytes(), tag+8, 8, 16), api.Fine, append(s.at, tag+16, tag+32)...)
	isObjects(t, "a Size that ends between them", with(s.bytes(), tag+8, 8, 32), api.Fine, append(s.at, tag+32)...)
}

// P14.1: nothing else of the objects is asked: their kinds may be any, their
// bodies none, six bytes ahead and the zeros behind whatever they are.
func TestObjectsAskNothingElse(t *testing.T) {
	s := none(t)
	for kind := api.Data; kind <= api.Tag; kind++ {
		s.lay(obj.Put(kind, nil))
		s.lay(obj.Put(kind, []byte{1}))
	}
	s.h.Objects, s.h.Datas, s.h.TailObject, s.h.Entries = 1, 2, 3, 4
	b := s.bytes()
	isObjects(t, "objects without what they need", b, api.Fine, s.at...)
	for _, at := range s.at {
		b = with(with(b, at+2, 2, 0xffff), at+4, 4, 0xffffffff)
	}
	b[len(b)-1] = 7
	isObjects(t, "objects with other bytes ahead and behind", b, api.Fine, s.at...)
}

// P0.4: each list is new memory, its room behind its end, too; and what lies
// behind the bytes that are handed in stays as it is.
func TestObjectsIsNewMemory(t *testing.T) {
	s := some(t)
	long := slices.Concat(s.bytes(), []byte{1, 2, 3, 4})
	b := long[: len(long)-4 : len(long)]
	x, _ := Objects(b)
	y, _ := Objects(b)
	x[0], x = 7, append(x, 8, 9)
	_ = append(x[:2], 10, 11)
	if !slices.Equal(y, s.at) {
		t.Errorf("Objects: %v, want %v", y, s.at)
	}
	isObjects(t, "bytes with more behind", b, api.Fine, s.at...)
	isCheck(t, "bytes with more behind", b, 0, api.Fine)
	if !slices.Equal(long[len(b):], []byte{1, 2, 3, 4}) {
		t.Errorf("what lies behind the bytes: %v", long[len(b):])
	}
}
