package writer

import (
	"strconv"
	"testing"

	"diurnal/api"
	"diurnal/entry"
	"diurnal/hash"
	"diurnal/link"
)

// P13.3: behind the first entry the head knows it as the first one and as the
// last; behind further ones the first one stays.
func TestHeadOfTheFirstAndTheLastEntry(t *testing.T) {
	_, w := begun(t, conf(2, 2), 41)
	for i := range 5 {
		n := uint64(i + 42)
		if told, code := w.Append(pairs("A"+strconv.Itoa(i)), 1000-n, 50*n, boot(i)); told != n || code != api.Fine {
			t.Fatalf("Append: %d, %d", told, code)
		}
		h := headOf(t, w)
		if h.HeadSeq != 42 || h.HeadReal != 958 || h.TailSeq != n || h.TailReal != 1000-n || h.TailMono != 50*n || h.Boot != boot(i) {
			t.Errorf("behind entry %d: %+v", n, h)
		}
		if h.Entries != uint64(i+1) || w.Tail() != n || w.Waiting() != i+1 {
			t.Errorf("behind entry %d: Entries %d, Tail %d, Waiting %d", n, h.Entries, w.Tail(), w.Waiting())
		}
		v := opened(t, w.Image())
		if r, code := v.Record(h.TailEntry); code != api.Fine || r.Seq != n {
			t.Errorf("behind entry %d, TailEntry: %v, %d", n, r, code)
		}
	}
}

// P13.3: an entry whose times are 0 is the first one all the same.
func TestHeadOfAFirstEntryOfZeros(t *testing.T) {
	_, w := begun(t, conf(2, 2), 0)
	w.Append(pairs("A"), 0, 0, api.ID{})
	w.Append(pairs("A"), 5, 6, boot(7))
	if h := headOf(t, w); h.HeadSeq != 1 || h.HeadReal != 0 || h.TailReal != 5 || h.TailMono != 6 || h.Boot != boot(7) {
		t.Errorf("%+v", h)
	}
}

// P13.3: what is named is told, all else stays as Create made it.
func TestHeadStaysOtherwise(t *testing.T) {
	c := conf(3, 2)
	c.Keyed = true
	_, w := begun(t, c, 0)
	was := headOf(t, w)
	for range 20 {
		appended(t, w, "A1", "B2")
	}
	h := headOf(t, w)
	if h.Compat != 2 || h.Incompat != api.Keyed || h.State != api.Online || h.Tags != 0 || h.Size != api.HeadSize ||
		h.File != was.File || h.Machine != was.Machine || h.Seq != was.Seq ||
		h.DataTable != was.DataTable || h.DataSize != was.DataSize || h.FieldTable != was.FieldTable || h.FieldSize != was.FieldSize {
		t.Errorf("%+v; at first %+v", h, was)
	}
}

// P13.3: the counts: each object, each Data, each Field, each Array, once.
func TestHeadCounts(t *testing.T) {
	_, w := begun(t, conf(2, 2), 0)
	steps := []struct {
		l                                      []string
		objects, datas, fields, arrays, behind uint64
	}{
		// An array of all entries.
		{[]string{"A1", "B1"}, 8, 2, 2, 1, 0},
		// A Data more, and an array of A=1.
		{[]string{"A1", "A2"}, 11, 3, 2, 2, 0},
		{[]string{"A1"}, 12, 3, 2, 2, 0},
		// An array of B=1.
		{[]string{"B1"}, 14, 3, 2, 3, 0},
		// The second one of all entries; A=1 has room for another one.
		{[]string{"A1"}, 16, 3, 2, 4, 0},
		{[]string{"A1"}, 17, 3, 2, 4, 0},
		// The second one of A=1.
		{[]string{"A1"}, 19, 3, 2, 5, 0},
		{[]string{"C1"}, 22, 4, 3, 5, 0},
	}
	for i, s := range steps {
		appended(t, w, s.l...)
		h := headOf(t, w)
		if h.Objects != s.objects || h.Datas != s.datas || h.Fields != s.fields || h.Arrays != s.arrays || h.Entries != uint64(i+1) {
			t.Errorf("behind entry %d: %d objects, %d data, %d fields, %d arrays, %d entries", i+1, h.Objects, h.Datas, h.Fields, h.Arrays, h.Entries)
		}
		if end := uint64(len(w.Image())); h.Arena != end-api.HeadSize || h.TailObject >= end || h.TailObject < h.TailEntry {
			t.Errorf("behind entry %d: Arena %d, TailObject %d of %d", i+1, h.Arena, h.TailObject, end)
		}
	}
}

// P13.3: the last array of all entries, and how many are there: at each end of
// an array, too.
func TestHeadOfTheLastArray(t *testing.T) {
	_, w := begun(t, conf(2, 2), 0)
	k, items, last := 0, 0, uint64(0)
	for n := range 130 {
		appended(t, w, "A"+strconv.Itoa(n%3))
		if items == link.Room(k) {
			k, items = k+1, 0
		}
		items++
		h := headOf(t, w)
		v := opened(t, w.Image())
		a, code := v.Array(uint64(h.TailArray))
		if code != api.Fine || int(h.TailItems) != items || len(a.Items) != link.Room(k) || a.Next != 0 {
			t.Fatalf("behind entry %d: TailItems %d, want %d of %d; %v, %d", n+1, h.TailItems, items, link.Room(k), a, code)
		}
		if a.Items[items-1] != h.TailEntry || items < len(a.Items) && a.Items[items] != 0 {
			t.Errorf("behind entry %d: %v", n+1, a.Items)
		}
		if items == 1 && last == uint64(h.TailArray) || items > 1 && last != uint64(h.TailArray) {
			t.Errorf("behind entry %d: TailArray %d, ahead of it %d", n+1, h.TailArray, last)
		}
		last = uint64(h.TailArray)
	}
	v := opened(t, w.Image())
	if a, code := v.Array(v.Head().Array); code != api.Fine || len(a.Items) != 4 || a.Next == 0 {
		t.Errorf("the first array: %v, %d", a, code)
	}
}

// P13.3: the depths: the most that stand ahead of another one in one chain,
// whichever slot's that is.
func TestHeadDepths(t *testing.T) {
	for _, slots := range [][2]int{{1, 1}, {2, 1}, {1, 2}, {3, 3}, {64, 64}} {
		_, w := begun(t, conf(slots[0], slots[1]), 0)
		data, fields := make([]int, slots[0]), make([]int, slots[1])
		for i := range 40 {
			name := string(rune('A' + i%26))
			appended(t, w, name+strconv.Itoa(i))
			data[hash.Lookup([]byte(name+"="+strconv.Itoa(i)))%uint64(slots[0])]++
			if i < 26 {
				fields[hash.Lookup([]byte(name))%uint64(slots[1])]++
			}
			if h := headOf(t, w); h.DataDepth != deepest(data) || h.FieldDepth != deepest(fields) {
				t.Errorf("slots %v, entry %d: %d and %d; want %v, %v", slots, i, h.DataDepth, h.FieldDepth, data, fields)
			}
		}
	}
}

// deepest answers how many are ahead of the last one of the longest chain.
func deepest(l []int) uint64 {
	most := 1
	for _, n := range l {
		most = max(most, n)
	}
	return uint64(most - 1)
}

// P13.2: each slot names its first object and its last one.
func TestSlots(t *testing.T) {
	_, w := begun(t, conf(2, 1), 0)
	for i := range 30 {
		appended(t, w, string(rune('A'+i%26))+strconv.Itoa(i))
	}
	v := opened(t, w.Image())
	for kind, n := range map[int]int{api.DataTable: 2, api.FieldTable: 1} {
		slots, code := v.Table(kind)
		if code != api.Fine || len(slots) != n {
			t.Fatalf("Table(%d): %v, %d", kind, slots, code)
		}
		for _, s := range slots {
			if s == (entry.Slot{}) || s.Head >= s.Tail {
				t.Errorf("Table(%d): %v", kind, slots)
			}
		}
	}
}
