package writer

import (
	"bytes"
	"math"
	"slices"
	"strings"
	"testing"

	"diurnal/api"
	"diurnal/chain"
	"diurnal/entry"
	"diurnal/field"
	"diurnal/hash"
	"diurnal/link"
	"diurnal/obj"
)

// P13.2: two entries, each object where it is to be, by its bytes.
func TestAppendObjectByObject(t *testing.T) {
	c := conf(1, 1)
	_, w := begun(t, c, 7)
	appended(t, w, "B2", "A1", "B2")
	appended(t, w, "A3", "A1")
	h := func(s string) uint64 { return hash.Lookup([]byte(s)) }
	// The places: A=1 336, A 408, B=2 456, B 528, an entry of two items 576,
	// an array of four items 672, A=3 728, an entry of two items 800, and the
	// array of the second entry of A=1 896.
	want := slices.Concat(
		entry.PutTable(api.DataTable, []entry.Slot{{Head: 336, Tail: 728}}),
		entry.PutTable(api.FieldTable, []entry.Slot{{Head: 408, Tail: 528}}),
		obj.PutData(obj.Data{Hash: h("A=1"), NextHash: 456, Entry: 576, Array: 896, Count: 2, Payload: []byte("A=1")}),
		obj.PutField(obj.Field{Hash: h("A"), NextHash: 528, Data: 728, Payload: []byte("A")}),
		obj.PutData(obj.Data{Hash: h("B=2"), NextHash: 728, Entry: 576, Count: 1, Payload: []byte("B=2")}),
		obj.PutField(obj.Field{Hash: h("B"), Data: 456, Payload: []byte("B")}),
		entry.Put(entry.Entry{Seq: 8, Real: 80, Mono: 800, Boot: boot(8), Xor: h("A=1") ^ h("B=2"),
			Items: []entry.Item{{At: 336, Hash: h("A=1")}, {At: 456, Hash: h("B=2")}}}),
		entry.PutArray(entry.Array{Items: []uint64{576, 800, 0, 0}}),
		obj.PutData(obj.Data{Hash: h("A=3"), NextField: 336, Entry: 800, Count: 1, Payload: []byte("A=3")}),
		entry.Put(entry.Entry{Seq: 9, Real: 90, Mono: 900, Boot: boot(9), Xor: h("A=1") ^ h("A=3"),
			Items: []entry.Item{{At: 336, Hash: h("A=1")}, {At: 728, Hash: h("A=3")}}}),
		entry.PutArray(entry.Array{Items: []uint64{800, 0, 0, 0}}))
	got := w.Image()[api.HeadSize:]
	for i := range min(len(want), len(got)) {
		if got[i] != want[i] {
			t.Fatalf("another byte at %d", i+api.HeadSize)
		}
	}
	if len(got) != len(want) {
		t.Errorf("%d bytes; want %d", len(got), len(want))
	}
}

// P13.2: an entry's items rise by their places, be the payloads laid in what
// order soever.
func TestItemsByTheirPlaces(t *testing.T) {
	_, w := begun(t, conf(2, 2), 0)
	appended(t, w, "C1")
	appended(t, w, "B1")
	appended(t, w, "A1", "B1", "C1")
	v := opened(t, w.Image())
	r, code := v.Record(v.Head().TailEntry)
	if code != api.Fine || !slices.Equal(r.Fields, pairs("C1", "B1", "A1")) {
		t.Errorf("Record: %v, %d", r, code)
	}
}

// P13.2: the readers find what was appended: the entries, what they have, and
// the data of a name, the last laid first.
func TestAppendedIsFound(t *testing.T) {
	for _, keyed := range []bool{false, true} {
		c := conf(3, 2)
		c.Keyed = keyed
		_, w := begun(t, c, 100)
		for i := range 40 {
			appended(t, w, "A", "B"+string(rune('a'+i%7)), "C"+string(rune('a'+i%2)))
		}
		v := opened(t, w.Image())
		all, code := link.Entries(v)
		if code != api.Fine || len(all) != 40 {
			t.Fatalf("Entries: %v, %d", all, code)
		}
		for i, at := range all {
			r, code := v.Record(at)
			want := api.Record{Seq: uint64(101 + i), Real: uint64(1010 + 10*i), Mono: uint64(10100 + 100*i), Boot: boot(101 + i)}
			want.Fields = pairs("A", "B"+string(rune('a'+i%7)), "C"+string(rune('a'+i%2)))
			if code != api.Fine || !field.Same(r.Fields, want.Fields) {
				t.Errorf("entry %d: %v, %d", i, r, code)
			}
			want.Fields = r.Fields
			if !field.SameRecord(r, want) {
				t.Errorf("entry %d: %v", i, r)
			}
		}
		isOfEach(t, w, "A=", 1, 0, all)
		for i := range 7 {
			isOfEach(t, w, "B="+string(rune('a'+i)), 7, i, all)
		}
		isOfEach(t, w, "C=b", 2, 1, all)
		var values string
		l, code := chain.Datas(v, "B")
		for _, at := range l {
			b, _ := v.Payload(at)
			values += string(b[2:])
		}
		if code != api.Fine || values != "gfedcba" {
			t.Errorf("Datas: %q, %d", values, code)
		}
	}
}

// isOfEach tells where the payload is not found, or not in each so many-th of
// all entries.
func isOfEach(t *testing.T, w *Writer, payload string, step, from int, all []uint64) {
	t.Helper()
	var want []uint64
	for i := from; i < len(all); i += step {
		want = append(want, all[i])
	}
	v := opened(t, w.Image())
	at, code := chain.FindData(v, []byte(payload))
	if code != api.Fine {
		t.Errorf("FindData of %q: %d", payload, code)
	}
	if l, code := link.Of(v, at); code != api.Fine || !slices.Equal(l, want) {
		t.Errorf("Of %q: %v, %d; want %v", payload, l, code, want)
	}
}

// P13.2: field.List's codes; nothing is appended then.
func TestAppendOfWrongFields(t *testing.T) {
	_, w := begun(t, conf(2, 2), 3)
	appended(t, w, "A1")
	refused(t, w, nil, api.ErrNone)
	refused(t, w, []api.Pair{}, api.ErrNone)
	refused(t, w, []api.Pair{{Name: "A", Value: "2"}, {}}, api.ErrArg)
	refused(t, w, []api.Pair{{Name: "a"}}, api.ErrArg)
	refused(t, w, []api.Pair{{Name: strings.Repeat("A", 65)}}, api.ErrArg)
	refused(t, w, []api.Pair{{Name: "A", Value: strings.Repeat("x", 257)}}, api.ErrLong)
	refused(t, w, pairs("A", "B", "C", "D", "E", "F", "G", "H", "I", "J", "K", "L", "M", "N", "O", "P", "Q"), api.ErrLong)
	appended(t, w, "A", "B", "C", "D", "E", "F", "G", "H", "I", "J", "K", "L", "M", "N", "O", "P", "A", "P")
	longest := []api.Pair{{Name: strings.Repeat("A", 64), Value: strings.Repeat("\x00", 256)}}
	if n, code := w.Append(longest, 0, 0, api.ID{}); n != 6 || code != api.Fine {
		t.Errorf("Append of the longest field: %d, %d", n, code)
	}
}

// P13.2: ErrArg where Tail is the greatest number, behind field.List's codes,
// ahead of ErrFull.
func TestAppendBehindTheGreatestNumber(t *testing.T) {
	c := conf(64, 64)
	c.Most = 4096
	_, w := begun(t, c, math.MaxUint64-1)
	appended(t, w, "A1")
	if w.Tail() != math.MaxUint64 {
		t.Errorf("Tail %d", w.Tail())
	}
	refused(t, w, pairs("A1"), api.ErrArg)
	refused(t, w, nil, api.ErrNone)
	refused(t, w, []api.Pair{{Name: "A", Value: strings.Repeat("x", 257)}}, api.ErrLong)
	refused(t, w, wide(), api.ErrArg)
	tells(t, "Archive", w.Archive(), api.Fine)
	refused(t, w, pairs("A1"), api.ErrState)
	_, w = begun(t, c, math.MaxUint64)
	refused(t, w, pairs("A1"), api.ErrArg)
	_, w = begun(t, c, 0)
	refused(t, w, wide(), api.ErrFull)
}

// wide answers fields of which 4096 bytes have not room.
func wide() []api.Pair {
	var l []api.Pair
	for i := range 16 {
		l = append(l, api.Pair{Name: string(rune('A' + i)), Value: strings.Repeat("x", 256)})
	}
	return l
}

// P13.2: ErrFull where the image would have more than Most bytes, to the byte,
// behind entries that came to each place; a smaller entry may be taken then.
func TestAppendUpToMost(t *testing.T) {
	for n := 10; n < 24; n++ {
		long := pairs("A1", "B"+strings.Repeat("x", 200), "C"+strings.Repeat("x", 256), "D"+strings.Repeat("x", 256))
		p := plainly(conf(64, 64), 0)
		for range n {
			p.add(pairs("A1", "B1"), 0, 0, api.ID{})
		}
		p.add(long, 0, 0, api.ID{})
		for more := -9; more <= 9; more++ {
			c := conf(64, 64)
			c.Most = int(p.end) + more
			_, w := begun(t, c, 0)
			for range n {
				appended(t, w, "A1", "B1")
			}
			if more < 0 {
				refused(t, w, long, api.ErrFull)
				appended(t, w, "A1")
				continue
			}
			if _, code := w.Append(long, 0, 0, api.ID{}); code != api.Fine || len(w.Image()) != int(p.end) {
				t.Errorf("entry %d, %d bytes of %d: %d", n, p.end, c.Most, code)
			}
		}
	}
}

// P13.2: the greatest image of all; then nothing has room, and it is committed.
func TestAppendUpToTheGreatestFile(t *testing.T) {
	fs, w := begun(t, conf(1, 1), 0)
	for {
		if _, code := w.Append(pairs("A"), 0, 0, api.ID{}); code != api.Fine {
			break
		}
	}
	n := len(w.Image())
	if n > api.MaxFile || n < api.MaxFile-5000 {
		t.Errorf("the image has %d bytes", n)
	}
	refused(t, w, pairs("A"), api.ErrFull)
	tells(t, "Commit", w.Commit(), api.Fine)
	isSafe(t, fs, "j", w.Image())
}

// P13.2: nothing is written ahead of a Commit, nor is power asked for.
func TestAppendWritesNothing(t *testing.T) {
	fs, w := begun(t, conf(2, 2), 0)
	b := w.Image()
	fs.Fuse(0)
	for range 10 {
		appended(t, w, "A1", "B2")
	}
	if fs.Off() {
		t.Error("Append takes the power off")
	}
	has(t, fs, "j", b)
	fs.SyncDir()
	appended(t, w, "A2")
}

// P13.2: ErrState where the journal is archived, ahead of all else.
func TestAppendWhereArchived(t *testing.T) {
	_, w := begun(t, conf(2, 2), 0)
	appended(t, w, "A1")
	tells(t, "Archive", w.Archive(), api.Fine)
	refused(t, w, pairs("A1"), api.ErrState)
	refused(t, w, nil, api.ErrState)
	refused(t, w, []api.Pair{{Name: "a"}}, api.ErrState)
}

// P0.4: what is handed in is neither changed nor kept, what is handed out is
// new memory, with its spare room.
func TestMemory(t *testing.T) {
	_, w := begun(t, conf(2, 2), 0)
	l := pairs("B2", "A1", "B2", "Z9")
	if _, code := w.Append(l[:3], 1, 2, boot(1)); code != api.Fine || !slices.Equal(l, pairs("B2", "A1", "B2", "Z9")) {
		t.Errorf("Append: %d, and %v", code, l)
	}
	want := w.Image()
	clear(l)
	b := w.Image()
	b = append(b, 1, 2, 3)
	clear(b[:cap(b)])
	if !bytes.Equal(w.Image(), want) {
		t.Error("what the caller writes is seen in the image")
	}
	before := w.Image()
	appended(t, w, "A1", "B5")
	tells(t, "Archive", w.Archive(), api.Fine)
	if !bytes.Equal(before, want) {
		t.Error("what was handed out is written into later")
	}
}
