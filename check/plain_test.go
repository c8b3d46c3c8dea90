package check

import (
	"iter"
	"math"
	"slices"
	"testing"

	"diurnal/api"
	"diurnal/arena"
	"diurnal/chain"
	"diurnal/entry"
	"diurnal/field"
	"diurnal/link"
	"diurnal/obj"
)

// told answers what Check does, reckoned by the chapter's words, one by one.
func told(b []byte) (uint64, int) {
	l, code := toldObjects(b)
	if code != api.Fine {
		return 0, code
	}
	v, _ := arena.Open(b)
	for _, step := range []iter.Seq2[uint64, int]{toldAlone(v, b, l), toldCounts(v, b, l), toldChains(v), toldInChains(v, b, l), toldEntries(v)} {
		for at, code := range step {
			if code != api.Fine {
				return at, code
			}
		}
	}
	return 0, api.Fine
}

// toldObjects answers what Objects does.
func toldObjects(b []byte) (l []uint64, code int) {
	v, code := arena.Open(b)
	if code != api.Fine {
		return nil, code
	}
	at := v.Head().Size
	for at < v.End() {
		f, code := obj.Read(b[:v.End()], at)
		if code != api.Fine {
			return nil, code
		}
		l = append(l, at)
		at += f.Size
		for at%8 != 0 {
			at++
		}
	}
	return l, api.Fine
}

// toldAlone yields the codes of the objects, each as it stands.
func toldAlone(v *arena.View, b []byte, l []uint64) iter.Seq2[uint64, int] {
	return func(yield func(uint64, int) bool) {
		for _, at := range l {
			var codes []int
			switch kind := int(b[at]); kind {
			case api.Data:
				d, code := v.Data(at)
				_, split := field.Split(d.Payload)
				codes = []int{code, unless(d.Hash == v.Hash(d.Payload), api.ErrHash), split}
			case api.Field:
				f, code := v.Field(at)
				codes = []int{code, unless(f.Hash == v.Hash(f.Payload), api.ErrHash), unless(field.Name(string(f.Payload)), api.ErrText)}
			case api.Entry:
				_, code := v.Entry(at)
				codes = []int{code}
			case api.Array:
				_, code := v.Array(at)
				codes = []int{code}
			case api.DataTable, api.FieldTable:
				_, code := entry.ReadTable(b[:v.End()], at, kind)
				codes = []int{code}
			}
			for _, code := range codes {
				if !yield(at, code) {
					return
				}
			}
		}
	}
}

// unless answers the code, or Fine where it holds.
func unless(holds bool, code int) int {
	if holds {
		return api.Fine
	}
	return code
}

// toldCounts yields the codes of the head's counts.
func toldCounts(v *arena.View, b []byte, l []uint64) iter.Seq2[uint64, int] {
	n := map[byte]uint64{}
	last := uint64(0)
	for _, at := range l {
		n[b[at]]++
		last = at
	}
	h := v.Head()
	return func(yield func(uint64, int) bool) {
		for _, c := range [][2]uint64{{h.Objects, uint64(len(l))}, {h.Entries, n[3]}, {h.Datas, n[1]}, {h.Fields, n[2]}, {h.Tags, n[7]}, {h.Arrays, n[6]}, {h.TailObject, last}} {
			if !yield(0, unless(c[0] == c[1], api.ErrCount)) {
				return
			}
		}
	}
}

// toldChains yields the codes of the tables and of their chains.
func toldChains(v *arena.View) iter.Seq2[uint64, int] {
	return func(yield func(uint64, int) bool) {
		for _, kind := range []int{api.DataTable, api.FieldTable} {
			slots, code := v.Table(kind)
			if !yield(0, code) {
				return
			}
			for i := range slots {
				_, code := chain.Bucket(v, kind, i)
				if !yield(0, code) {
					return
				}
			}
		}
	}
}

// toldInChains yields whether the objects are in their chains.
func toldInChains(v *arena.View, b []byte, l []uint64) iter.Seq2[uint64, int] {
	return func(yield func(uint64, int) bool) {
		for _, at := range l {
			kind, hash := api.DataTable, uint64(0)
			switch b[at] {
			case api.Data:
				d, _ := v.Data(at)
				hash = d.Hash
			case api.Field:
				f, _ := v.Field(at)
				kind, hash = api.FieldTable, f.Hash
			default:
				continue
			}
			slots, _ := v.Table(kind)
			places, _ := chain.Bucket(v, kind, int(hash%uint64(len(slots))))
			if !yield(at, unless(slices.Contains(places, at), api.ErrNone)) {
				return
			}
		}
	}
}

// toldEntries yields the codes of the entries, and of the head's numbers.
func toldEntries(v *arena.View) iter.Seq2[uint64, int] {
	return func(yield func(uint64, int) bool) {
		places, code := link.Entries(v)
		if !yield(0, code) {
			return
		}
		var seqs []uint64
		for i, at := range places {
			r, code := v.Record(at)
			seqs = append(seqs, r.Seq)
			if !yield(at, code) || !yield(at, unless(i == 0 || seqs[i] > seqs[i-1], api.ErrOrder)) {
				return
			}
			e, _ := v.Entry(at)
			for _, item := range e.Items {
				of, code := link.Of(v, item.At)
				if !yield(at, code) || !yield(at, unless(slices.Contains(of, at), api.ErrNone)) {
					return
				}
			}
		}
		if h := v.Head(); len(seqs) == 0 {
			yield(0, unless(h.HeadSeq == 0, api.ErrOrder))
		} else {
			yield(0, unless(h.HeadSeq == seqs[0] && h.TailSeq >= seqs[len(seqs)-1], api.ErrOrder))
		}
	}
}

// isTold tells where Check and Objects do not answer what the chapter says. It
// answers what it says of Check.
func isTold(t *testing.T, what string, seed uint64, b []byte) (uint64, int) {
	t.Helper()
	at, code := told(b)
	if got, is := Check(b); got != at || is != code {
		t.Fatalf("%s, seed %d: Check: %d, %d; want %d, %d", what, seed, got, is, at, code)
	}
	l, wrong := toldObjects(b)
	if got, is := Objects(b); is != wrong || !slices.Equal(got, l) {
		t.Fatalf("%s, seed %d: Objects: %v, %d; want %v, %d", what, seed, got, is, l, wrong)
	}
	return at, code
}

// P14.1, P14.2: journals whose numbers are spoilt in many ways, against the
// chapter's words.
func TestSpoiltJournals(t *testing.T) {
	seen := map[[2]int]int{}
	right := some(t).bytes()
	for seed := range uint64(20000) {
		at, code := isTold(t, "spoilt numbers", seed, spoilt(t, right, seed))
		seen[[2]int{int(min(at, 1)), code}]++
	}
	for _, c := range [][2]int{
		{0, api.Fine}, {0, api.ErrLoop}, {0, api.ErrType}, {0, api.ErrAlign}, {0, api.ErrRange}, {0, api.ErrCount}, {0, api.ErrOrder},
		{1, api.ErrHash}, {1, api.ErrText}, {1, api.ErrXor}, {1, api.ErrItems}, {1, api.ErrOrder}, {1, api.ErrNone},
		{1, api.ErrLoop}, {1, api.ErrType}, {1, api.ErrAlign}, {1, api.ErrRange},
	} {
		if seen[c] < 20 {
			t.Errorf("%d (at 0, or at an object: 1) was told only %d times", c, seen[c])
		}
	}
}

// spoilt answers the bytes of that journal in which some numbers were changed,
// by a rule that goes by the seed.
func spoilt(t *testing.T, right []byte, seed uint64) []byte {
	s, throw := apart(t, right), dice(seed)
	values := append(slices.Clone(s.at), 0, 1, 2, 8, 99, 272, s.end-8, s.end, s.end+8, s.at[5]+1, s.at[9]+8, math.MaxUint64)
	for range 1 + throw(3) {
		value := values[throw(len(values))]
		var numbers []*uint64
		switch x := s.laid[s.at[throw(len(s.at))]].(type) {
		case *obj.Data:
			numbers = []*uint64{&x.NextHash, &x.Entry, &x.Array, &x.Count, &x.Array, &x.NextField}
			if throw(8) == 0 {
				x.Payload = []byte("a=1")
				x.Hash = s.hash("a=1") + uint64(throw(2))
			}
		case *obj.Field:
			numbers = []*uint64{&x.NextHash, &x.Data}
			if throw(8) == 0 {
				x.Payload = []byte("a")
				x.Hash = s.hash("a") + uint64(throw(2))
			}
		case *entry.Entry:
			numbers = []*uint64{&x.Seq, &x.Xor, &x.Real, &x.Items[len(x.Items)-1].At, &x.Items[0].Hash}
		case *entry.Array:
			numbers = []*uint64{&x.Next, &x.Items[0], &x.Items[1], &x.Items[throw(len(x.Items))]}
		case *table:
			numbers = []*uint64{&x.slots[0].Head, &x.slots[1].Head, &x.slots[throw(2)].Tail}
		}
		if throw(6) == 0 {
			numbers = []*uint64{&s.h.Array, &s.h.HeadSeq, &s.h.TailSeq, &s.h.Entries, &s.h.DataTable, &s.h.DataSize, &s.h.FieldTable, &s.h.Objects, &s.h.TailObject}
		}
		*numbers[throw(len(numbers))] = value
	}
	return s.bytes()
}

// P0.1, P14.1, P14.2: with any byte spoilt, the calls end, and say what the
// chapter does.
func TestEachByteSpoilt(t *testing.T) {
	for _, right := range [][]byte{some(t).bytes(), none(t).bytes()} {
		for i := range right {
			for _, turn := range []byte{1, 2, 4, 8, 16, 0x80, 0xff, right[i]} {
				b := slices.Clone(right)
				b[i] ^= turn
				isTold(t, "a spoilt byte", uint64(i), b)
			}
		}
	}
}

// P0.1: the calls end of bytes that end anywhere, and of any bytes.
func TestAnyBytes(t *testing.T) {
	right := some(t).bytes()
	for n := range right {
		isTold(t, "bytes that end", uint64(n), right[:n])
	}
	for seed := range uint64(2000) {
		throw := dice(seed)
		b := slices.Clone(right)
		for i := 272 + throw(len(b)-272); i < len(b); i++ {
			b[i] = byte(throw(8) * throw(2) * throw(40))
		}
		isTold(t, "any bytes", seed, b)
	}
}

// P14.2: what an array or a chain names is asked where it stands, be it one of
// Objects or not.
func TestWithinATag(t *testing.T) {
	s := some(t)
	e, at := s.entry(8)
	within := s.lay(obj.Put(api.Tag, entry.Put(*e))) + 16
	for _, x := range s.laid {
		if a, ok := x.(*entry.Array); ok {
			for i, item := range a.Items {
				if item == at {
					a.Items[i] = within
				}
			}
		}
	}
	isCheck(t, "an entry within a tag", s.bytes(), 0, api.Fine)
	e.Xor++
	isCheck(t, "another one is as it was", s.bytes(), 0, api.Fine)
	s.laid[within-16] = obj.Put(api.Tag, entry.Put(*e))
	isCheck(t, "a wrong entry within a tag", s.bytes(), within, api.ErrXor)
}

// P0.1: of many entries with one payload, and of a great table, each thing is
// asked so often that the calls end soon.
func TestGreatJournal(t *testing.T) {
	const n, slots = 3000, 20000
	s := apart(t, written(t, config(3, 2, true), []string{"A=1"}))
	for _, kind := range []int{api.DataTable, api.FieldTable} {
		was := s.table(kind).slots
		hash := s.hash("A=1")
		if kind == api.FieldTable {
			hash = s.hash("A")
		}
		all := make([]entry.Slot, slots)
		all[hash%slots] = was[hash%uint64(len(was))]
		at := s.lay(&table{kind, all}) + 16
		if kind == api.DataTable {
			s.h.DataTable, s.h.DataSize = at, 16*slots
		} else {
			s.h.FieldTable, s.h.FieldSize = at, 16*slots
		}
	}
	d, data := s.data("A=1")
	e, first := s.entry(1)
	places := []uint64{first}
	for i := range uint64(n) {
		places = append(places, s.lay(&entry.Entry{Seq: i + 2, Xor: e.Xor, Items: []entry.Item{{At: data, Hash: d.Hash}}}))
	}
	d.Count, d.Array = n+1, s.lay(&entry.Array{Items: places[1:]})
	s.h.Array, s.h.TailSeq = s.lay(&entry.Array{Items: places}), n+1
	isCheck(t, "a great journal", s.bytes(), 0, api.Fine)
	d.Count--
	isCheck(t, "a great journal whose last entry is wrong", s.bytes(), places[n], api.ErrNone)
}
