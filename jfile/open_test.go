package jfile

import (
	"bytes"
	"fmt"
	"math"
	"slices"
	"testing"

	"diurnal/api"
	"diurnal/entry"
	"diurnal/head"
)

// P15.1: Open tells arena.Open's code, and answers nothing beside it.
func TestOpenOfWhatIsNoJournal(t *testing.T) {
	b := written(t, true, 0, some(3)...)
	isRefused(t, "nil", nil, api.ErrShort)
	isRefused(t, "no bytes", []byte{}, api.ErrShort)
	for n := range api.HeadSize {
		isRefused(t, fmt.Sprint(n, " bytes"), b[:n], api.ErrShort)
	}
	for n := api.HeadSize; n < len(b); n++ {
		isRefused(t, fmt.Sprint(n, " bytes"), b[:n], api.ErrRange)
	}
	isRefused(t, "another signature", slices.Concat([]byte("lpkshhrh"), b[8:]), api.ErrMagic)
	for code, turns := range map[int][]func(h *head.Head){
		api.ErrFlags: {func(h *head.Head) { h.Incompat = 1 }, func(h *head.Head) { h.Incompat = api.Keyed | 8 }},
		api.ErrState: {func(h *head.Head) { h.State = 3 }, func(h *head.Head) { h.State = 255 }},
		api.ErrSize:  {func(h *head.Head) { h.Size = 264 }, func(h *head.Head) { h.Arena-- }, func(h *head.Head) { h.DataSize = 0 }, func(h *head.Head) { h.FieldSize = 8 }},
		api.ErrRange: {func(h *head.Head) { h.Arena += 8 }, func(h *head.Head) { h.Arena = 1<<64 - 8 }, func(h *head.Head) { h.DataTable = 280 }, func(h *head.Head) { h.FieldTable = h.Size + h.Arena }},
		api.ErrAlign: {func(h *head.Head) { h.DataTable++ }, func(h *head.Head) { h.FieldTable += 4 }},
	} {
		for i, turn := range turns {
			isRefused(t, fmt.Sprint("turn ", i, " of the head"), headed(t, b, turn), code)
		}
	}
}

// P15.1: a new journal has no entries, and nothing is amiss.
func TestNewJournal(t *testing.T) {
	for _, keyed := range []bool{false, true} {
		f := isOpened(t, "a new one", written(t, keyed, 7), api.Fine)
		isGood(t, "a new one", f)
	}
}

// P15.1: of each number of entries, about the ends of the arrays, each has its
// place, and its record is what was appended.
func TestEntriesThatWereWritten(t *testing.T) {
	for _, keyed := range []bool{false, true} {
		for _, n := range []int{1, 2, 3, 4, 5, 11, 12, 13, 27, 28, 29, 61} {
			what, rows := fmt.Sprint(n, " entries"), some(n)
			b := written(t, keyed, 40, rows...)
			places := entries(t, b)
			if len(places) != n {
				t.Fatalf("%s: places %v", what, places)
			}
			f := isOpened(t, what, b, api.Fine, places...)
			for i, s := range rows {
				isRecord(t, what, f, i, api.Fine, stamped(t, i, s, 40))
			}
			isGood(t, what, f, upTo(n)...)
		}
	}
}

// P15.1: a journal of any State is read.
func TestEachState(t *testing.T) {
	b := written(t, true, 0, some(6)...)
	for _, state := range []int{api.Offline, api.Online, api.Archived} {
		c := headed(t, b, func(h *head.Head) { h.State = state })
		f := isOpened(t, fmt.Sprint("State ", state), c, api.Fine, entries(t, b)...)
		if f.Head().State != state {
			t.Errorf("State %d: %d", state, f.Head().State)
		}
		isGood(t, fmt.Sprint("State ", state), f, upTo(6)...)
	}
}

// P15.1: what stands behind the end is not there, and that bytes are there does
// no harm.
func TestBehindTheEnd(t *testing.T) {
	b := written(t, true, 0, some(5)...)
	places := entries(t, b)
	f := isOpened(t, "a journal with bytes behind", slices.Concat(b, bytes.Repeat([]byte{0xff}, 100)), api.Fine, places...)
	if f.View().End() != uint64(len(b)) {
		t.Errorf("End: %d; want %d", f.View().End(), len(b))
	}
	// The last entry, and what is behind it, are not there any more.
	short := headed(t, b, func(h *head.Head) { h.Arena = places[4] - h.Size })
	isOpened(t, "a journal whose end is ahead of an entry", short, api.ErrCount, places[:4]...)
}

// P15.1: as many as the head counts are told, and no one behind them.
func TestHeadsCount(t *testing.T) {
	b := written(t, true, 0, some(7)...)
	places := entries(t, b)
	for n := range 8 {
		c := headed(t, b, func(h *head.Head) { h.Entries = uint64(n) })
		f := isOpened(t, fmt.Sprint(n, " of 7"), c, api.Fine, places[:n]...)
		isGood(t, fmt.Sprint(n, " of 7"), f, upTo(n)...)
	}
	none := headed(t, b, func(h *head.Head) { h.Entries, h.Array = 0, 1 })
	isOpened(t, "no entries and a wrong array", none, api.Fine)
	for _, n := range []uint64{8, 12, 1 << 32, 1 << 63, math.MaxUint64} {
		c := headed(t, b, func(h *head.Head) { h.Entries = n })
		f := isOpened(t, fmt.Sprint(n, " of 7"), c, api.ErrRange, places...)
		isGood(t, fmt.Sprint(n, " of 7"), f, upTo(7)...)
	}
}

// P15.1: Code is what link.Entries tells; it is no code of Open, and the places
// ahead of it are there. P15.2: what is right among these is told.
func TestListThatCannotBeRead(t *testing.T) {
	b := written(t, true, 0, some(7)...)
	places, end := entries(t, b), uint64(len(b))
	first := opened(t, b).Head().Array
	second := get(t, b, first+arrayNext)
	// Of the seven entries the first array has four.
	for _, c := range []struct {
		what    string
		at, v   uint64
		n, code int
	}{
		{"the next array is nothing", first + arrayNext, 0, 4, api.ErrCount},
		{"the next array is the end", first + arrayNext, end, 4, api.ErrCount},
		{"the next array is the same", first + arrayNext, first, 4, api.ErrLoop},
		{"the next array is in the head", first + arrayNext, 8, 4, api.ErrLoop},
		{"the next array is an entry", first + arrayNext, places[6], 4, api.ErrType},
		{"the next array is between two places", first + arrayNext, second + 4, 4, api.ErrAlign},
		{"the next array has no size", second + 8, 15, 4, api.ErrSize},
		{"the first item is nothing", item(first, 0), 0, 0, api.ErrRange},
		{"the third item is nothing", item(first, 2), end + 8, 2, api.ErrRange},
		{"the last item is nothing", item(second, 2), math.MaxUint64, 6, api.ErrRange},
		{"two items are the same", item(first, 1), places[0], 1, api.ErrOrder},
		{"an item is below the one ahead", item(second, 1), places[1], 5, api.ErrOrder},
	} {
		f := isOpened(t, c.what, put(t, b, c.at, c.v), c.code, places[:c.n]...)
		isGood(t, c.what, f, upTo(c.n)...)
	}
	for _, c := range []struct {
		array uint64
		code  int
	}{{0, api.ErrCount}, {end, api.ErrCount}, {math.MaxUint64, api.ErrCount}, {8, api.ErrRange}, {first + 1, api.ErrAlign}, {places[0], api.ErrType}} {
		what := fmt.Sprint("the first array is ", c.array)
		f := isOpened(t, what, headed(t, b, func(h *head.Head) { h.Array = c.array }), c.code)
		isGood(t, what, f)
	}
}

// P15.1: what an array names is a place, whatever stands there; Record tells
// arena's code of it.
func TestPlacesThatAreNoEntries(t *testing.T) {
	b := written(t, true, 0, some(3)...)
	places := entries(t, b)
	array := opened(t, b).Head().Array
	for _, c := range []struct {
		at   uint64
		code int
	}{
		{1, api.ErrRange}, {api.HeadSize - 8, api.ErrRange}, {api.HeadSize, api.ErrType}, {places[0] - 8, api.ErrType},
		{places[0] + 4, api.ErrAlign}, {places[0] - 1, api.ErrAlign},
	} {
		what := fmt.Sprint("the first item is ", c.at)
		f := isOpened(t, what, put(t, b, item(array, 0), c.at), api.Fine, c.at, places[1], places[2])
		isRecord(t, what, f, 0, c.code, api.Record{})
		isGood(t, what, f, 1, 2)
	}
}

// P15.1: what is told is what b was when it was opened, whatever becomes of it.
func TestAsItWasThen(t *testing.T) {
	b := written(t, true, 0, some(9)...)
	places := entries(t, b)
	b = slices.Grow(b, 100)
	f := isOpened(t, "the journal", b, api.Fine, places...)
	want := f.Head()
	clear(b[:cap(b)])
	for i, s := range some(9) {
		if at, code := f.At(i); at != places[i] || code != api.Fine {
			t.Errorf("At(%d): %d, %d; want %d", i, at, code, places[i])
		}
		isRecord(t, "behind its change", f, i, api.Fine, stamped(t, i, s, 0))
	}
	if f.Len() != 9 || f.Code() != api.Fine || f.Head() != want || f.View().Head() != want {
		t.Errorf("Len %d, Code %d, Head %+v; want %+v", f.Len(), f.Code(), f.Head(), want)
	}
	isBeyond(t, "behind its change", f)
	isGood(t, "behind its change", f, upTo(9)...)
}

// P15.1: the view is one of the same journal.
func TestView(t *testing.T) {
	b := written(t, true, 0, some(9)...)
	v, w := opened(t, b).View(), viewed(t, b)
	for at := range uint64(len(b)) + 16 {
		p, code := v.Payload(at)
		q, want := w.Payload(at)
		if code != want || !bytes.Equal(p, q) {
			t.Fatalf("Payload(%d): %q, %d; want %q, %d", at, p, code, q, want)
		}
	}
	for _, kind := range []int{api.DataTable, api.FieldTable} {
		l, code := v.Table(kind)
		want, _ := w.Table(kind)
		if code != api.Fine || !slices.Equal(l, want) {
			t.Errorf("Table(%d): %v, %d; want %v", kind, l, code, want)
		}
	}
	if v.Hash(b) != w.Hash(b) {
		t.Error("Hash is another one")
	}
}

// P0.4: what is handed out is new memory.
func TestRecordsAreNew(t *testing.T) {
	f := opened(t, written(t, true, 0, some(3)...))
	r, _ := f.Record(1)
	clear(r.Fields[:cap(r.Fields)])
	want := stamped(t, 1, some(3)[1], 0)
	isRecord(t, "behind a change of the same record", f, 1, api.Fine, want)
	a, _ := f.Record(1)
	c, _ := f.Record(1)
	_, _ = append(a.Fields, api.Pair{Name: "X"}), append(c.Fields, api.Pair{Name: "Y"})
	clear(c.Fields)
	if !slices.Equal(a.Fields, want.Fields) {
		t.Errorf("Record: %+v; want %+v", a, want)
	}
}

// P0.5: two journals that are open don't know of each other.
func TestTwoJournals(t *testing.T) {
	b, c := written(t, true, 0, some(5)...), written(t, false, 9, "D=1", "E=1")
	f, g := opened(t, b), opened(t, c)
	same := opened(t, b)
	if f.Len() != 5 || g.Len() != 2 || same.Len() != 5 {
		t.Errorf("Len: %d, %d, %d", f.Len(), g.Len(), same.Len())
	}
	isRecord(t, "the one", f, 0, api.Fine, stamped(t, 0, "A=1", 0))
	isRecord(t, "the other", g, 0, api.Fine, stamped(t, 0, "D=1", 9))
	isRecord(t, "the other", g, 1, api.Fine, stamped(t, 1, "E=1", 9))
	isRecord(t, "the one", f, 4, api.Fine, stamped(t, 4, some(5)[4], 0))
	isGood(t, "the other", g, 0, 1)
	isGood(t, "the one", f, upTo(5)...)
}

// P0.1: of many entries each is told once, and no place is looked at for ever.
func TestLongList(t *testing.T) {
	const n = 20000
	b := written(t, true, 0, "A=1")
	place := entries(t, b)[0]
	row := b[place : place+entryItems+16]
	var rows []byte
	a := entry.Array{Items: []uint64{place}}
	for i := range uint64(n) {
		a.Items = append(a.Items, uint64(len(b)+len(rows)))
		rows = append(rows, put(t, row, entrySeq, i+2)...)
	}
	b, _ = laid(t, b, rows)
	b, array := laid(t, b, entry.PutArray(a))
	b = headed(t, b, func(h *head.Head) { h.Array, h.Entries = array, n+1 })
	f := opened(t, b)
	if f.Len() != n+1 || f.Code() != api.Fine {
		t.Fatalf("Len %d, Code %d", f.Len(), f.Code())
	}
	if r, code := f.Record(n); code != api.Fine || r.Seq != n+1 {
		t.Errorf("Record: %+v, %d", r, code)
	}
	if l := f.Good(); !slices.Equal(l, upTo(n+1)) {
		t.Errorf("Good: %d of %d", len(l), n+1)
	}
}
