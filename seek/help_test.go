package seek

import (
	"math"
	"slices"
	"strconv"
	"testing"

	"diurnal/api"
	"diurnal/field"
	"diurnal/jfile"
	"diurnal/le"
	"diurnal/obj"
	"diurnal/simfs"
	"diurnal/writer"
)

// Where the parts of an entry stand in it.
const (
	entrySeq  = 16
	entryReal = 24
	entryMono = 32
	entryBoot = 40
	entryXor  = 56
)

// stamp is when an entry was written.
type stamp struct {
	real, mono uint64
	boot       byte
}

// pairs answers the fields of the i-th entry that is written.
func pairs(i int) []api.Pair {
	l := []api.Pair{{Name: "A", Value: strconv.Itoa(i % 3)}}
	if i%4 == 3 {
		l = append(l, api.Pair{Name: "B", Value: "1"})
	}
	return l
}

// written answers the bytes of a journal as a writer makes it, with an entry of
// each of these times, the first one of the number behind after.
func written(t *testing.T, after uint64, times ...stamp) []byte {
	t.Helper()
	fs, code := simfs.New(api.MaxRoom)
	if code != api.Fine {
		t.Fatalf("New: %d", code)
	}
	c := writer.Config{File: api.ID{1, 2}, Machine: api.ID{3}, Seq: api.ID{4, 5}, DataSlots: 3, FieldSlots: 2, Most: api.MaxFile, Keyed: true}
	w, code := writer.Create(fs, "j", c, after)
	if code != api.Fine {
		t.Fatalf("Create: %d", code)
	}
	for i, s := range times {
		if _, code := w.Append(pairs(i), s.real, s.mono, api.ID{s.boot}); code != api.Fine {
			t.Fatalf("Append of entry %d: %d", i, code)
		}
	}
	return w.Image()
}

// rising answers n times that rise, five entries of a boot.
func rising(n int) []stamp {
	var l []stamp
	for i := range n {
		l = append(l, stamp{100 + 10*uint64(i), 10 * uint64(i), byte(i / 5)})
	}
	return l
}

// entries answers where the entries stand that were written, object by object.
func entries(t *testing.T, b []byte) []uint64 {
	t.Helper()
	var l []uint64
	for at := uint64(api.HeadSize); at < uint64(len(b)); {
		f, code := obj.Read(b, at)
		if code != api.Fine {
			t.Fatalf("Read of the object at %d: %d", at, code)
		}
		if f.Kind == api.Entry {
			l = append(l, at)
		}
		at += (f.Size + 7) &^ 7
	}
	return l
}

// put answers b with that number of 8 bytes there.
func put(t *testing.T, b []byte, at, v uint64) []byte {
	t.Helper()
	out, ok := le.Put(b, int(at), 8, v)
	if !ok {
		t.Fatalf("Put at %d of %d bytes", at, len(b))
	}
	return out
}

// numbered answers a journal of an entry for each of these numbers, whose times
// rise. It is laid by hand: no writer would give out such numbers.
func numbered(t *testing.T, seqs ...uint64) []byte {
	t.Helper()
	b := written(t, 0, rising(len(seqs))...)
	l := entries(t, b)
	for i, n := range seqs {
		b = put(t, b, l[i]+entrySeq, n)
	}
	return b
}

// opened answers the journal of b.
func opened(t *testing.T, b []byte) *jfile.File {
	t.Helper()
	f, code := jfile.Open(b)
	if code != api.Fine {
		t.Fatalf("Open of %d bytes: %d", len(b), code)
	}
	return f
}

// right answers f's right entries, in order.
func right(t *testing.T, f *jfile.File) []api.Record {
	t.Helper()
	var l []api.Record
	for _, i := range f.Good() {
		r, code := f.Record(i)
		if code != api.Fine {
			t.Fatalf("Record(%d) of a right one: %d", i, code)
		}
		l = append(l, r)
	}
	return l
}

// most answers how many numbers Seq may look at in an index of n entries.
func most(n int) int { return len(strconv.FormatInt(int64(n), 2)) + 1 }

// isRecord tells where the k-th one is not r, or, with no r, where there is one.
func isRecord(t *testing.T, what string, x *Index, k int, r *api.Record) {
	t.Helper()
	want := api.Record{}
	if r != nil {
		want = *r
	}
	if got, ok := x.Record(k); ok != (r != nil) || !field.SameRecord(got, want) || (!ok && got.Fields != nil) {
		t.Fatalf("%s: Record(%d): %+v, %v; want %+v", what, k, got, ok, r)
	}
}

// isSeq tells where Seq(n) does not answer k, or looks at too many numbers.
func isSeq(t *testing.T, what string, x *Index, n uint64, k int) {
	t.Helper()
	got, looked := x.Seq(n)
	if got != k || looked > most(x.Len()) || looked < 0 {
		t.Fatalf("%s: Seq(%d) of %d: %d, %d looked at; want %d, %d", what, n, x.Len(), got, looked, k, most(x.Len()))
	}
	// Of some entries no one is the first without a look at one.
	if x.Len() > 0 && looked == 0 {
		t.Fatalf("%s: Seq(%d) of %d: none looked at", what, n, x.Len())
	}
}

// isReal tells where Real(at) does not answer k.
func isReal(t *testing.T, what string, x *Index, at uint64, k int) {
	t.Helper()
	if got := x.Real(at); got != k {
		t.Fatalf("%s: Real(%d) of %d: %d; want %d", what, at, x.Len(), got, k)
	}
}

// isMono tells where Mono does not answer k: below 0, none.
func isMono(t *testing.T, what string, x *Index, boot api.ID, at uint64, k int) {
	t.Helper()
	if got, ok := x.Mono(boot, at); got != max(k, 0) || ok != (k >= 0) {
		t.Fatalf("%s: Mono(%v, %d) of %d: %d, %v; want %d", what, boot, at, x.Len(), got, ok, k)
	}
}

// isIndex tells where the index of f does not answer what the chapter's words
// say of f's right entries. It answers the index.
func isIndex(t *testing.T, what string, f *jfile.File) *Index {
	t.Helper()
	x, l := New(f), right(t, f)
	if x.Len() != len(l) {
		t.Fatalf("%s: Len %d; want %d", what, x.Len(), len(l))
	}
	numbers, reals, monos, boots := asked(l)
	for k := range l {
		isRecord(t, what, x, k, &l[k])
	}
	for _, k := range []int{math.MinInt, -2, -1, len(l), len(l) + 1, 2*len(l) + 1, math.MaxInt} {
		isRecord(t, what, x, k, nil)
	}
	for _, n := range numbers {
		isSeq(t, what, x, n, orLen(l, func(r api.Record) bool { return r.Seq >= n }))
	}
	for _, at := range reals {
		isReal(t, what, x, at, orLen(l, func(r api.Record) bool { return r.Real >= at }))
	}
	for _, boot := range boots {
		for _, at := range monos {
			isMono(t, what, x, boot, at, slices.IndexFunc(l, func(r api.Record) bool { return r.Boot == boot && r.Mono >= at }))
		}
	}
	return x
}

// asked answers the numbers, times and boots that are worth asking of these
// entries: theirs, those beside them, and the ends.
func asked(l []api.Record) (numbers, reals, monos []uint64, boots []api.ID) {
	for _, r := range append([]api.Record{{}, {Boot: api.ID{255}}}, l...) {
		numbers = append(numbers, r.Seq-1, r.Seq, r.Seq+1)
		reals = append(reals, r.Real-1, r.Real, r.Real+1)
		if !slices.Contains(boots, r.Boot) {
			boots = append(boots, r.Boot)
		}
		if !slices.Contains(monos, r.Mono) {
			monos = append(monos, r.Mono-1, r.Mono, r.Mono+1)
		}
	}
	return numbers, reals, monos, boots
}

// orLen answers the first one of that kind, or how many there are.
func orLen(l []api.Record, isIt func(r api.Record) bool) int {
	if k := slices.IndexFunc(l, isIt); k >= 0 {
		return k
	}
	return len(l)
}

// dice answers numbers that are as good as thrown, the same ones each time.
func dice(seed uint64) func(n int) int {
	state := seed*0x9e3779b97f4a7c15 + 1
	return func(n int) int {
		state = state*6364136223846793005 + 1442695040888963407
		return int(state >> 33 % uint64(n))
	}
}
