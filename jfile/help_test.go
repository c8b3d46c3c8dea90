package jfile

import (
	"math"
	"slices"
	"strings"
	"testing"

	"diurnal/api"
	"diurnal/arena"
	"diurnal/field"
	"diurnal/head"
	"diurnal/le"
	"diurnal/obj"
	"diurnal/simfs"
	"diurnal/writer"
)

// Where the parts of an object stand in it, and the hash in an item of an entry.
const (
	dataHash    = 16
	dataPayload = 64
	entrySeq    = 16
	entryXor    = 56
	entryItems  = 64
	itemHash    = 8
	arrayNext   = 16
	arrayItems  = 24
)

// row answers the fields of these payloads, which blanks part.
func row(t *testing.T, payloads string) []api.Pair {
	t.Helper()
	var l []api.Pair
	for _, s := range strings.Fields(payloads) {
		p, code := field.Split([]byte(s))
		if code != api.Fine {
			t.Fatalf("Split of %q: %d", s, code)
		}
		l = append(l, p)
	}
	return l
}

// stamped answers the record that the i-th entry of written must have.
func stamped(t *testing.T, i int, payloads string, after uint64) api.Record {
	t.Helper()
	n := uint64(i + 1)
	return api.Record{Seq: after + n, Real: 10 * n, Mono: 100 * n, Boot: api.ID{byte(i)}, Fields: row(t, payloads)}
}

// written answers the bytes of a journal as a writer makes it, with an entry of
// each of these rows of payloads, the first one of the number behind after.
func written(t *testing.T, keyed bool, after uint64, rows ...string) []byte {
	t.Helper()
	fs, code := simfs.New(api.MaxRoom)
	if code != api.Fine {
		t.Fatalf("New: %d", code)
	}
	c := writer.Config{File: api.ID{1, 2}, Machine: api.ID{3}, Seq: api.ID{4, 5}, DataSlots: 3, FieldSlots: 2, Most: api.MaxFile, Keyed: keyed}
	w, code := writer.Create(fs, "j", c, after)
	if code != api.Fine {
		t.Fatalf("Create: %d", code)
	}
	for i, s := range rows {
		r := stamped(t, i, s, after)
		if n, code := w.Append(r.Fields, r.Real, r.Mono, r.Boot); n != r.Seq || code != api.Fine {
			t.Fatalf("Append of %q: %d, %d", s, n, code)
		}
	}
	return w.Image()
}

// some answers n rows of payloads, of which some are in many.
func some(n int) []string {
	var l []string
	for i := range n {
		l = append(l, []string{"A=1", "A=1 B=2", "A=2 B=1 C=3", "A=1 C=" + strings.Repeat("x", i)}[i%4])
	}
	return l
}

// entries answers where the entries stand that were written, object by object.
func entries(t *testing.T, b []byte) []uint64 {
	t.Helper()
	var l []uint64
	for at := uint64(api.HeadSize); at < uint64(len(b)); {
		f, code := obj.Read(b, at)
		if code != api.Fine {
			t.Fatalf("Read of the object at %d: %d", at, code)
		}
		if f.Kind == api.Entry {
			l = append(l, at)
		}
		at += (f.Size + 7) &^ 7
	}
	return l
}

// put answers b with that number of 8 bytes there.
func put(t *testing.T, b []byte, at, v uint64) []byte {
	t.Helper()
	out, ok := le.Put(b, int(at), 8, v)
	if !ok {
		t.Fatalf("Put at %d of %d bytes", at, len(b))
	}
	return out
}

// get answers the number of 8 bytes there.
func get(t *testing.T, b []byte, at uint64) uint64 {
	t.Helper()
	v, ok := le.Get(b, int(at), 8)
	if !ok {
		t.Fatalf("Get at %d of %d bytes", at, len(b))
	}
	return v
}

// numbered answers a journal of an entry for each of these numbers, and where
// they stand. It is laid by hand: no writer would give out such numbers.
func numbered(t *testing.T, seqs ...uint64) ([]byte, []uint64) {
	t.Helper()
	b := written(t, true, 0, some(len(seqs))...)
	l := entries(t, b)
	for i, n := range seqs {
		b = put(t, b, l[i]+entrySeq, n)
	}
	return b, l
}

// opened answers the journal of b.
func opened(t *testing.T, b []byte) *File {
	t.Helper()
	f, code := Open(b)
	if code != api.Fine || f == nil {
		t.Fatalf("Open of %d bytes: %v, %d", len(b), f, code)
	}
	return f
}

// viewed answers arena's own view of b.
func viewed(t *testing.T, b []byte) *arena.View {
	t.Helper()
	v, code := arena.Open(b)
	if code != api.Fine {
		t.Fatalf("arena.Open of %d bytes: %d", len(b), code)
	}
	return v
}

// isRefused tells where Open of b does not tell that code, with nothing beside.
func isRefused(t *testing.T, what string, b []byte, code int) {
	t.Helper()
	if f, told := Open(b); f != nil || told != code || code == api.Fine {
		t.Errorf("%s: Open: %v, %d; want %d", what, f, told, code)
	}
}

// isOpened tells where Open of b, and what is asked of it then, does not answer
// these places, and that code beside them; or where b is changed. It answers
// the journal.
func isOpened(t *testing.T, what string, b []byte, code int, places ...uint64) *File {
	t.Helper()
	was := slices.Clone(b)
	f := opened(t, b)
	if f.Len() != len(places) || f.Code() != code {
		t.Fatalf("%s: Len %d, Code %d; want %d, %d", what, f.Len(), f.Code(), len(places), code)
	}
	v := viewed(t, b)
	for i, at := range places {
		if got, told := f.At(i); got != at || told != api.Fine {
			t.Fatalf("%s: At(%d): %d, %d; want %d", what, i, got, told, at)
		}
		r, told := v.Record(at)
		isRecord(t, what, f, i, told, r)
	}
	isBeyond(t, what, f)
	if f.Head() != v.Head() || f.View() == nil || f.View().Head() != v.Head() || f.View().End() != v.End() {
		t.Errorf("%s: Head %+v; want %+v", what, f.Head(), v.Head())
	}
	if !slices.Equal(b, was) {
		t.Errorf("%s: what was handed in is changed", what)
	}
	return f
}

// isBeyond tells where At and Record don't tell ErrRange, with nothing beside,
// of what is not from 0 to below Len.
func isBeyond(t *testing.T, what string, f *File) {
	t.Helper()
	for _, i := range []int{math.MinInt, math.MinInt32, -2, -1, f.Len(), f.Len() + 1, 2*f.Len() + 1, math.MaxInt32, math.MaxInt} {
		if at, code := f.At(i); at != 0 || code != api.ErrRange {
			t.Errorf("%s: At(%d) of %d: %d, %d", what, i, f.Len(), at, code)
		}
		isRecord(t, what, f, i, api.ErrRange, api.Record{})
	}
}

// isRecord tells where Record does not answer r and that code.
func isRecord(t *testing.T, what string, f *File, i, code int, r api.Record) {
	t.Helper()
	if got, told := f.Record(i); told != code || !field.SameRecord(got, r) {
		t.Fatalf("%s: Record(%d): %+v, %d; want %+v, %d", what, i, got, told, r, code)
	}
}

// isGood tells where Good does not answer these.
func isGood(t *testing.T, what string, f *File, want ...int) {
	t.Helper()
	if got := f.Good(); !slices.Equal(got, want) {
		t.Errorf("%s: Good: %v; want %v", what, got, want)
	}
}

// upTo answers the numbers from 0 to below n.
func upTo(n int) []int {
	var l []int
	for i := range n {
		l = append(l, i)
	}
	return l
}

// toldGood answers what Good answers, by the chapter's words, of a journal
// whose entries stand at these places.
func toldGood(v *arena.View, places []uint64) []int {
	var l []int
	var ahead []uint64
	for i, at := range places {
		r, code := v.Record(at)
		isAbove := !slices.ContainsFunc(ahead, func(n uint64) bool { return r.Seq <= n })
		if code == api.Fine && isAbove {
			l, ahead = append(l, i), append(ahead, r.Seq)
		}
	}
	return l
}

// headed answers b with its head turned.
func headed(t *testing.T, b []byte, turn func(h *head.Head)) []byte {
	t.Helper()
	h, code := head.Read(b)
	if code != api.Fine {
		t.Fatalf("Read of the head: %d", code)
	}
	turn(&h)
	return slices.Concat(head.Put(h), b[api.HeadSize:])
}

// laid answers b, and behind its end one object more; and where that stands.
func laid(t *testing.T, b, object []byte) ([]byte, uint64) {
	t.Helper()
	at := uint64(len(b))
	return headed(t, slices.Concat(b, object), func(h *head.Head) { h.Arena = at + uint64(len(object)) - h.Size }), at
}

// item answers where the array that stands at that place has its i-th item.
func item(array uint64, i int) uint64 { return array + arrayItems + 8*uint64(i) }

// dice answers numbers that are as good as thrown, the same ones each time.
func dice(seed uint64) func(n int) int {
	state := seed*0x9e3779b97f4a7c15 + 1
	return func(n int) int {
		state = state*6364136223846793005 + 1442695040888963407
		return int(state >> 33 % uint64(n))
	}
}
