package arena

import (
	"bytes"
	"math"
	"slices"
	"testing"

	"diurnal/api"
	"diurnal/entry"
	"diurnal/hash"
	"diurnal/head"
	"diurnal/obj"
)

// P10.1: Open tells head.Read's code, with no view beside.
func TestOpenTellsTheHeadsCode(t *testing.T) {
	if v, code := Open(nil); v != nil || code != api.ErrShort {
		t.Errorf("Open of nothing: %v, %d", v, code)
	}
	j, _ := mixed(false)
	right := j.bytes()
	for _, c := range []struct {
		name string
		at   int
		v    byte
		code int
	}{
		{"magic", 7, 'h', api.ErrMagic},
		{"incompatible flags", 12, 2, api.ErrFlags},
		{"state", 16, 3, api.ErrState},
		{"size", 88, 12, api.ErrSize},
		{"arena", 96 + 4, 1, api.ErrRange},
		{"data's table's place", 104, 1, api.ErrAlign},
		{"data's table's size", 112, 0, api.ErrSize},
		{"fields' table's place", 120 + 7, 0x80, api.ErrRange},
	} {
		b := bytes.Clone(right)
		b[c.at] = c.v
		if v, code := Open(b); v != nil || code != c.code {
			t.Errorf("Open of another %s: %v, %d; want %d", c.name, v, code, c.code)
		}
	}
	for n := range right {
		_, want := head.Read(right[:n])
		if v, code := Open(right[:n]); v != nil || code != want || code == api.Fine {
			t.Errorf("Open of %d bytes: %v, %d; want %d", n, v, code, want)
		}
	}
}

// P10.1: Head is as it was read; End is Size and Arena, whatever is behind it.
func TestHeadAndEnd(t *testing.T) {
	for _, more := range []int{0, 1, 8, 100} {
		j, _ := mixed(true)
		j.h.Compat, j.h.TailObject, j.h.TailSeq, j.h.TailEntry = 1, 2, 3, 4
		b := j.bytes()
		end := uint64(len(b))
		b = append(b, make([]byte, more)...)
		v := opened(t, b)
		if want, _ := head.Read(b); v.Head() != want {
			t.Errorf("Head with %d bytes behind: %+v; want %+v", more, v.Head(), want)
		}
		if v.End() != end {
			t.Errorf("End with %d bytes behind: %d; want %d", more, v.End(), end)
		}
	}
}

// P10.1: each of Data, Field, Entry and Array answers what stands at a place.
func TestWhatStandsAtItsPlace(t *testing.T) {
	j := begun()
	d := obj.Data{Hash: 1, NextHash: 2, NextField: 3, Entry: 4, Array: 5, Count: 6, Payload: []byte("anything")}
	f := obj.Field{Hash: 7, NextHash: 8, Data: 9, Payload: []byte("not a name")}
	e := entry.Entry{Seq: 10, Real: 11, Mono: 12, Boot: api.ID{13}, Xor: 14, Items: []entry.Item{{At: 15, Hash: 16}, {At: 17, Hash: 18}}}
	a := entry.Array{Next: 19, Items: []uint64{21, 20, 0}}
	atD, atF, atE, atA := j.lay(obj.PutData(d)), j.lay(obj.PutField(f)), j.lay(entry.Put(e)), j.lay(entry.PutArray(a))
	v := j.view(t)
	if got, code := v.Data(atD); code != api.Fine || !sameData(got, d) {
		t.Errorf("Data: %+v, %d", got, code)
	}
	if got, code := v.Field(atF); code != api.Fine || !sameField(got, f) {
		t.Errorf("Field: %+v, %d", got, code)
	}
	if got, code := v.Entry(atE); code != api.Fine || !sameEntry(got, e) {
		t.Errorf("Entry: %+v, %d", got, code)
	}
	if got, code := v.Array(atA); code != api.Fine || !sameArray(got, a) {
		t.Errorf("Array: %+v, %d", got, code)
	}
}

// areAsRead tells where Data, Field, Entry or Array does not answer at that
// place what the readers do of the bytes b up to the end, or where a place that
// is not between the head and the end is not ErrRange.
func areAsRead(t *testing.T, v *View, b []byte, size, at uint64) {
	t.Helper()
	out := at < size || at >= uint64(len(b))
	d, dCode := obj.ReadData(b, at)
	f, fCode := obj.ReadField(b, at)
	e, eCode := entry.Read(b, at)
	a, aCode := entry.ReadArray(b, at)
	if out {
		d, f, e, a = obj.Data{}, obj.Field{}, entry.Entry{}, entry.Array{}
		dCode, fCode, eCode, aCode = api.ErrRange, api.ErrRange, api.ErrRange, api.ErrRange
	}
	if got, code := v.Data(at); code != dCode || !sameData(got, d) {
		t.Errorf("Data(%d): %+v, %d; want %+v, %d", at, got, code, d, dCode)
	}
	if got, code := v.Field(at); code != fCode || !sameField(got, f) {
		t.Errorf("Field(%d): %+v, %d; want %+v, %d", at, got, code, f, fCode)
	}
	if got, code := v.Entry(at); code != eCode || !sameEntry(got, e) {
		t.Errorf("Entry(%d): %+v, %d; want %+v, %d", at, got, code, e, eCode)
	}
	if got, code := v.Array(at); code != aCode || !sameArray(got, a) {
		t.Errorf("Array(%d): %+v, %d; want %+v, %d", at, got, code, a, aCode)
	}
}

// P10.1: at every place, right or wrong, the readers' answer.
func TestEveryPlace(t *testing.T) {
	for _, keyed := range []bool{false, true} {
		j, _ := mixed(keyed)
		b := j.bytes()
		v := opened(t, b)
		for _, at := range places(b) {
			areAsRead(t, v, b, 272, at)
		}
	}
}

// P10.1: the readers' codes, where an object is spoilt.
func TestSpoiltObjects(t *testing.T) {
	j, _ := mixed(false)
	right := j.bytes()
	for at := 272; at < len(right); at += 8 {
		for i := range 16 {
			b := bytes.Clone(right)
			b[min(at+i, len(b)-1)] ^= 0x83
			areAsRead(t, opened(t, b), b, 272, uint64(at))
		}
	}
}

// P10.1: a place in the head is none, also where an object stands there: a
// head of more bytes than are known.
func TestPlacesInTheHead(t *testing.T) {
	j := &journal{h: head.Head{Size: 272}}
	hidden := []uint64{
		j.lay(obj.PutData(obj.Data{Payload: []byte("x")})),
		j.lay(obj.PutField(obj.Field{Payload: []byte("x")})),
		j.lay(entry.Put(entry.Entry{Seq: 1, Items: []entry.Item{{}}})),
		j.lay(entry.PutArray(entry.Array{Items: []uint64{1}})),
	}
	j.h.Size = 272 + uint64(len(j.rest))
	first := j.data("A=1").At
	j.h.DataTable = j.lay(entry.PutTable(api.DataTable, dataSlots())) + 16
	j.h.FieldTable = j.lay(entry.PutTable(api.FieldTable, fieldSlots())) + 16
	j.h.DataSize, j.h.FieldSize = 48, 32
	b := j.bytes()
	v := opened(t, b)
	if v.End() != uint64(len(b)) || v.Head().Size != first {
		t.Fatalf("End %d, Size %d", v.End(), v.Head().Size)
	}
	for _, at := range append(hidden, first-16, first-8, first-1) {
		areAsRead(t, v, b, first, at)
		isNoPayload(t, v, at, api.ErrRange)
		isRefused(t, v, at, api.ErrRange)
	}
	isPayload(t, v, first, "A=1")
	isTable(t, v, api.DataTable, dataSlots())
}

// P10.1: a place that is none is ErrRange ahead of what obj tells of it.
func TestPlacesThatAreNone(t *testing.T) {
	j, _ := mixed(false)
	v := j.view(t)
	for _, at := range []uint64{0, 1, 8, 264, 271, v.End(), v.End() + 1, v.End() + 8, v.End() + 9, 1 << 63, math.MaxUint64} {
		_, d := v.Data(at)
		_, f := v.Field(at)
		_, e := v.Entry(at)
		_, a := v.Array(at)
		if got := [4]int{d, f, e, a}; got != [4]int{api.ErrRange, api.ErrRange, api.ErrRange, api.ErrRange} {
			t.Errorf("at %d: %v", at, got)
		}
	}
	// Places that are ones, at the edges.
	for at, code := range map[uint64]int{272: api.ErrType, 273: api.ErrAlign, v.End() - 1: api.ErrAlign, v.End() - 8: api.ErrRange} {
		if _, got := v.Data(at); got != code {
			t.Errorf("Data(%d): %d; want %d", at, got, code)
		}
	}
}

// P10.1: what stands behind the end is not there, not even for an object that
// begins ahead of it.
func TestBehindTheEnd(t *testing.T) {
	laid := [][]byte{
		obj.PutData(obj.Data{Hash: hash.Lookup([]byte("A=123456")), Payload: []byte("A=123456")}),
		obj.PutField(obj.Field{Payload: []byte("ABCDEFGH")}),
		entry.Put(entry.Entry{Seq: 1, Items: []entry.Item{{At: 1}}}),
		entry.PutArray(entry.Array{Items: []uint64{1, 2}}),
	}
	for i, b := range laid {
		for cut := 0; cut <= len(b); cut += 8 {
			j := begun()
			at := j.lay(b[:cut])
			whole := append(j.bytes(), b[cut:]...)
			v := opened(t, whole)
			areAsRead(t, v, whole[:at+uint64(cut)], 272, at)
			_, d := v.Data(at)
			_, f := v.Field(at)
			_, e := v.Entry(at)
			_, a := v.Array(at)
			if fine := [4]int{d, f, e, a}[i] == api.Fine; fine != (cut == len(b)) {
				t.Errorf("object %d with %d of %d bytes ahead of the end: %d, %d, %d, %d", i, cut, len(b), d, f, e, a)
			}
		}
	}
	// A table too.
	j := &journal{h: head.Head{Size: 272}}
	j.h.FieldTable = j.lay(entry.PutTable(api.FieldTable, fieldSlots())) + 16
	j.h.DataTable = j.lay(entry.PutTable(api.DataTable, dataSlots())) + 16
	j.h.FieldSize, j.h.DataSize = 32, 32
	b := j.bytes()
	h := j.h
	h.Arena = uint64(len(b)) - 16 - h.Size
	v := opened(t, slices.Concat(head.Put(h), b[272:]))
	isNoTable(t, v, api.DataTable, api.ErrRange)
	isTable(t, v, api.FieldTable, fieldSlots())
}

// P10.1: Table of each kind.
func TestTable(t *testing.T) {
	j, _ := mixed(false)
	v := j.view(t)
	isTable(t, v, api.DataTable, dataSlots())
	isTable(t, v, api.FieldTable, fieldSlots())
	for _, kind := range []int{math.MinInt, -4, -1, 0, api.Data, api.Field, api.Entry, api.Array, api.Tag, 8, 4 + 256, 1<<32 + 4, math.MaxInt} {
		isNoTable(t, v, kind, api.ErrArg)
	}
}

// P10.1: ErrArg of a kind that is no table's is ahead of all else.
func TestTableOfNoKindAheadOfCodes(t *testing.T) {
	j, _ := mixed(false)
	j.h.DataTable, j.h.FieldTable = j.h.FieldTable, j.h.DataTable
	isNoTable(t, j.view(t), api.Array, api.ErrArg)
}

// P10.1: entry.ReadTable's code 16 bytes ahead of the place in Head.
func TestTableTellsTheReadersCode(t *testing.T) {
	for _, c := range []struct {
		name string
		turn func(b []byte)
		code int
	}{
		{"a kind that is none", func(b []byte) { b[0] = 0 }, api.ErrType},
		{"another kind", func(b []byte) { b[0] = api.Array }, api.ErrType},
		{"the other table's kind", func(b []byte) { b[0] ^= api.DataTable ^ api.FieldTable }, api.ErrType},
		{"flags", func(b []byte) { b[1] = 1 }, api.ErrFlags},
		{"a Size below 16", func(b []byte) { b[8] = 15 }, api.ErrSize},
		{"no slot", func(b []byte) { b[8] = 16 }, api.ErrSize},
		{"half a slot", func(b []byte) { b[8] = 40 }, api.ErrSize},
		{"a Size beyond the end", func(b []byte) { b[10] = 1 }, api.ErrRange},
		{"the greatest Size", func(b []byte) { copy(b[8:], "\xff\xff\xff\xff\xff\xff\xff\xff") }, api.ErrRange},
	} {
		for _, kind := range []int{api.DataTable, api.FieldTable} {
			j, _ := mixed(false)
			b := j.bytes()
			at := map[int]uint64{api.DataTable: j.h.DataTable, api.FieldTable: j.h.FieldTable}[kind] - 16
			c.turn(b[at:])
			v := opened(t, b)
			isNoTable(t, v, kind, c.code)
			// The other one is right all the same.
			if kind == api.DataTable {
				isTable(t, v, api.FieldTable, fieldSlots())
			} else {
				isTable(t, v, api.DataTable, dataSlots())
			}
		}
	}
}

// P10.1: the place in Head is that of the slots: elsewhere stands no table.
func TestTableElsewhere(t *testing.T) {
	for _, c := range []struct {
		place func(j *journal) uint64
		code  int
	}{
		{func(j *journal) uint64 { return j.h.DataTable + 8 }, api.ErrType},
		{func(j *journal) uint64 { return j.h.FieldTable }, api.ErrType},
		{func(j *journal) uint64 { return j.h.DataTable + 64 }, api.ErrType},
	} {
		j, _ := mixed(false)
		j.h.DataTable = c.place(j)
		isNoTable(t, j.view(t), api.DataTable, c.code)
		isTable(t, j.view(t), api.FieldTable, fieldSlots())
	}
}

// P10.1: ErrCount where Head says more slots, or fewer.
func TestTableOfAnotherCount(t *testing.T) {
	for size := uint64(16); size <= 96; size += 16 {
		j, _ := mixed(false)
		j.h.DataSize, j.h.FieldSize = size, size
		v := j.view(t)
		if size == 48 {
			isTable(t, v, api.DataTable, dataSlots())
		} else {
			isNoTable(t, v, api.DataTable, api.ErrCount)
		}
		if size == 32 {
			isTable(t, v, api.FieldTable, fieldSlots())
		} else {
			isNoTable(t, v, api.FieldTable, api.ErrCount)
		}
	}
	// ReadTable's code is ahead of it.
	j, _ := mixed(false)
	j.h.DataSize = 64
	b := j.bytes()
	b[272+8] = 40
	isNoTable(t, opened(t, b), api.DataTable, api.ErrSize)
}

// P10.1: Hash is keyed by File where the head says so, by nothing else.
func TestHash(t *testing.T) {
	for _, keyed := range []bool{false, true} {
		j, _ := mixed(keyed)
		for _, compat := range []uint32{0, api.Keyed, math.MaxUint32} {
			j.h.Compat = compat
			v := j.view(t)
			for n := range 40 {
				b := []byte("ABCDEFGHIJKLMNOPQRSTUVWXYZ=0123456789abc")[:n]
				want := hash.Lookup(b)
				if keyed {
					want = hash.Sip(api.ID{1, 2, 3}, b)
				}
				if got := v.Hash(b); got != want {
					t.Errorf("Hash of %q, keyed %t: %x; want %x", b, keyed, got, want)
				}
			}
			if v.Hash(nil) != v.Hash([]byte{}) {
				t.Error("Hash of nil and of no bytes")
			}
		}
	}
}

// P10.1, P0.4: a view is of the bytes as they were; it changes none of them,
// and reads none behind their length.
func TestBytesAsTheyWere(t *testing.T) {
	j, at := mixed(true)
	b := append(j.bytes(), 0xa5, 0xa5)
	given := bytes.Clone(b)
	v := opened(t, b)
	v.Data(at)
	v.Record(at)
	v.Table(api.DataTable)
	if !bytes.Equal(b, given) {
		t.Error("the bytes were changed")
	}
	for i := range b {
		b[i] = 0xff
	}
	if want, _ := head.Read(given); v.Head() != want || v.End() != uint64(len(given)-2) {
		t.Errorf("Head, End: %+v, %d", v.Head(), v.End())
	}
	for _, place := range places(given) {
		areAsRead(t, v, given[:len(given)-2], 272, place)
	}
	isRecord(t, v, at, record())
	isTable(t, v, api.DataTable, dataSlots())
	if v.Hash([]byte("x")) != hash.Sip(api.ID{1, 2, 3}, []byte("x")) {
		t.Error("Hash")
	}
}

// P0.4: whatever is done to what was handed out, no later answer shows it.
func TestPlacesAnswersAreNew(t *testing.T) {
	j, at := mixed(false)
	b := j.bytes()
	v := opened(t, b)
	spoil := func(l []byte) {
		for i := range l[:cap(l)] {
			l[:cap(l)][i] = 0xff
		}
	}
	for _, place := range places(b) {
		d, _ := v.Data(place)
		spoil(d.Payload)
		f, _ := v.Field(place)
		spoil(f.Payload)
		e, _ := v.Entry(place)
		for i := range e.Items[:cap(e.Items)] {
			e.Items[:cap(e.Items)][i] = entry.Item{At: 1, Hash: 1}
		}
		a, _ := v.Array(place)
		for i := range a.Items[:cap(a.Items)] {
			a.Items[:cap(a.Items)][i] = 1
		}
	}
	for _, kind := range []int{api.DataTable, api.FieldTable} {
		l, _ := v.Table(kind)
		for i := range l[:cap(l)] {
			l[:cap(l)][i] = entry.Slot{Head: 1, Tail: 1}
		}
	}
	h := v.Head()
	h.Size, h.Incompat = 0, api.Keyed
	for _, place := range places(b) {
		areAsRead(t, v, b, 272, place)
	}
	isRecord(t, v, at, record())
	isTable(t, v, api.DataTable, dataSlots())
	isTable(t, v, api.FieldTable, fieldSlots())
}
