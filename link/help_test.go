package link

import (
	"math"
	"slices"
	"testing"

	"diurnal/api"
	"diurnal/arena"
	"diurnal/entry"
	"diurnal/head"
	"diurnal/obj"
)

// journal is one that a test lays, object by object: each one can be changed up
// to the time when its bytes are asked for.
type journal struct {
	h    head.Head
	laid []any
	end  uint64
}

// first is the place of the first object that a test lays: behind two tables of
// one slot each.
const first = 336

// begun answers a journal with nothing but its head and its tables.
func begun() *journal {
	return &journal{end: first, h: head.Head{Size: 272, DataTable: 288, DataSize: 16, FieldTable: 320, FieldSize: 16}}
}

// lay lays an object behind all others, and answers its place.
func (j *journal) lay(x any) uint64 {
	at := j.end
	j.laid = append(j.laid, x)
	j.end += uint64(len(laidBytes(x)))
	return at
}

// laidBytes answers an object's bytes.
func laidBytes(x any) []byte {
	switch x := x.(type) {
	case *obj.Data:
		return obj.PutData(*x)
	case *entry.Array:
		return entry.PutArray(*x)
	}
	return x.([]byte)
}

// data lays an object Data that is bound to nothing.
func (j *journal) data() (uint64, *obj.Data) {
	d := &obj.Data{Payload: []byte("A=1")}
	return j.lay(d), d
}

// array lays an array of these items, with nothing behind it.
func (j *journal) array(items ...uint64) (uint64, *entry.Array) {
	a := &entry.Array{Items: items}
	return j.lay(a), a
}

// entry lays an entry of that number.
func (j *journal) entry(seq uint64) uint64 {
	return j.lay(entry.Put(entry.Entry{Seq: seq, Items: []entry.Item{{At: 1, Hash: 2}}}))
}

// bytes answers the journal's bytes, up to its end.
func (j *journal) bytes() []byte {
	h := j.h
	h.Arena = j.end - h.Size
	b := slices.Concat(head.Put(h), entry.PutTable(api.DataTable, make([]entry.Slot, 1)),
		entry.PutTable(api.FieldTable, make([]entry.Slot, 1)))
	for _, x := range j.laid {
		b = append(b, laidBytes(x)...)
	}
	return b
}

// view answers a view of the journal as it is now.
func (j *journal) view(t *testing.T) *arena.View {
	t.Helper()
	return opened(t, j.bytes())
}

// opened answers a view of b.
func opened(t *testing.T, b []byte) *arena.View {
	t.Helper()
	v, code := arena.Open(b)
	if code != api.Fine || v == nil {
		t.Fatalf("Open of %d bytes: %v, %d", len(b), v, code)
	}
	return v
}

// rooms answers how many items the arrays of a chain have, up to the k-th.
func rooms(k int) int {
	return []int{4, 8, 16, 32, 64, 128, 256}[min(k, 6)]
}

// bind binds an entry's place to the chain of these arrays as its n-th item,
// from 0 on, as a writer does; first names the first array.
func (j *journal) bind(arrays *[]*entry.Array, first *uint64, n int, place uint64) {
	k := 0
	for n >= rooms(k) {
		n -= rooms(k)
		k++
	}
	if k == len(*arrays) {
		at, a := j.array(make([]uint64, rooms(k))...)
		if k == 0 {
			*first = at
		} else {
			(*arrays)[k-1].Next = at
		}
		*arrays = append(*arrays, a)
	}
	(*arrays)[k].Items[n] = place
}

// bound answers a right journal of n entries, the places of these, and the
// places of three data: of one that each entry has, of one that every third
// has, and of one that none has.
func bound(n int) (j *journal, entries []uint64, data [3]uint64) {
	j = begun()
	var d [3]*obj.Data
	for i := range d {
		data[i], d[i] = j.data()
	}
	var all []*entry.Array
	var chains [2][]*entry.Array
	for i := range n {
		place := j.entry(uint64(i + 1))
		j.bind(&all, &j.h.Array, i, place)
		for k, x := range d[:2] {
			if k == 1 && i%3 != 0 {
				continue
			}
			if x.Count == 0 {
				x.Entry = place
			} else {
				j.bind(&chains[k], &x.Array, int(x.Count)-1, place)
			}
			x.Count++
		}
		entries = append(entries, place)
	}
	j.h.Entries = uint64(n)
	return j, entries, data
}

// thirds answers every third of l, from the first one on.
func thirds(l []uint64) []uint64 {
	var out []uint64
	for i := 0; i < len(l); i += 3 {
		out = append(out, l[i])
	}
	return out
}

// nothings answers places that stand for nothing in this journal.
func (j *journal) nothings() []uint64 {
	return []uint64{0, j.end, j.end + 1, j.end + 7, j.end + 8, 1 << 32, 1<<63 - 1, 1 << 63, math.MaxUint64 - 7, math.MaxUint64}
}

// isEntries tells where Entries does not answer that code, and beside it these
// places.
func isEntries(t *testing.T, v *arena.View, code int, l ...uint64) {
	t.Helper()
	if got, is := Entries(v); is != code || !slices.Equal(got, l) {
		t.Errorf("Entries: %v, %d; want %v, %d", got, is, l, code)
	}
}

// isOf tells where Of does not answer that code, and beside it these places.
func isOf(t *testing.T, v *arena.View, at uint64, code int, l ...uint64) {
	t.Helper()
	if got, is := Of(v, at); is != code || !slices.Equal(got, l) {
		t.Errorf("Of(%d): %v, %d; want %v, %d", at, got, is, l, code)
	}
}

// step is one thing that stands in a chain of arrays: an item, or, where array
// is set, an array or what is in its place.
type step struct {
	array       bool
	at          uint64
	nothing     bool
	loops, code int
}

// steps answers what comes from that array on, up to what can't be read or is
// nothing; each of the array and the items, in order.
func steps(v *arena.View, at uint64) []step {
	var l []step
	var ahead []uint64
	for {
		s := step{array: true, at: at, nothing: !(at > 0 && at < v.End())}
		if len(ahead) > 0 && at <= ahead[len(ahead)-1] {
			s.loops = api.ErrLoop
		}
		a, code := v.Array(at)
		s.code = code
		l = append(l, s)
		if s.nothing || s.loops != 0 || s.code != 0 {
			return l
		}
		ahead = append(ahead, at)
		for _, item := range a.Items {
			l = append(l, step{at: item, nothing: !(item > 0 && item < v.End())})
		}
		at = a.Next
	}
}

// toldEntries answers what Entries answers, by the chapter's words.
func toldEntries(v *arena.View) ([]uint64, int) {
	l := []uint64{}
	for _, s := range steps(v, v.Head().Array) {
		switch {
		case uint64(len(l)) == v.Head().Entries:
			return l, 0
		case s.array && s.nothing:
			return l, api.ErrCount
		case s.array && s.loops != 0:
			return l, s.loops
		case s.array && s.code != 0:
			return l, s.code
		case s.array:
		case s.nothing:
			return l, api.ErrRange
		case s.at <= slices.Max(append(l, 0)):
			return l, api.ErrOrder
		default:
			l = append(l, s.at)
		}
	}
	panic("steps end without a reason")
}

// toldOf answers what Of answers, by the chapter's words.
func toldOf(v *arena.View, at uint64) ([]uint64, int) {
	d, code := v.Data(at)
	if code != 0 {
		return nil, code
	}
	l := []uint64{}
	own := step{at: d.Entry, nothing: !(d.Entry > 0 && d.Entry < v.End())}
	for _, s := range append([]step{own}, steps(v, d.Array)...) {
		switch {
		case uint64(len(l)) == d.Count, s.nothing:
			return l, 0
		case s.loops != 0:
			return l, s.loops
		case s.code != 0:
			return l, s.code
		case s.array:
		case s.at <= slices.Max(append(l, 0)):
			return l, api.ErrOrder
		default:
			l = append(l, s.at)
		}
	}
	panic("steps end without a reason")
}
