package check

import (
	"math"
	"strings"
	"testing"

	"diurnal/api"
	"diurnal/entry"
	"diurnal/hash"
	"diurnal/obj"
)

// wrongAlone are objects that are wrong as they stand, and their codes.
func wrongAlone(s *sample) []struct {
	what string
	x    any
	code int
} {
	long := "A=" + strings.Repeat("v", 257)
	data := func(payload string, more uint64) any {
		return &obj.Data{Hash: s.hash(payload) + more, Payload: []byte(payload)}
	}
	name := func(name string, more uint64) any {
		return &obj.Field{Hash: s.hash(name) + more, Payload: []byte(name)}
	}
	one, two := []entry.Item{{At: 8}}, []entry.Item{{At: 16}, {At: 16}}
	return []struct {
		what string
		x    any
		code int
	}{
		{"a Data without a payload", obj.Put(api.Data, make([]byte, 48)), api.ErrSize},
		{"a Data of no bytes", obj.Put(api.Data, nil), api.ErrSize},
		{"a Data of another hash", data("A=7", 1), api.ErrHash},
		{"a Data of another hash and no text", data("A", math.MaxUint64), api.ErrHash},
		{"a Data of another hash, too long", data(long, 1), api.ErrHash},
		{"a Data of no sign", data("A", 0), api.ErrText},
		{"a Data of no name", data("=A", 0), api.ErrText},
		{"a Data of small letters", data("a=1", 0), api.ErrText},
		{"a Data of a digit first", data("1A=1", 0), api.ErrText},
		{"a Data of a long name", data(strings.Repeat("A", 65)+"=", 0), api.ErrText},
		{"a Data of a long value", data(long, 0), api.ErrLong},
		{"a Field without a payload", obj.Put(api.Field, make([]byte, 24)), api.ErrSize},
		{"a Field of no bytes", obj.Put(api.Field, nil), api.ErrSize},
		{"a Field of another hash", name("A", 1), api.ErrHash},
		{"a Field of another hash and no name", name("a", math.MaxUint64), api.ErrHash},
		{"a Field of small letters", name("a", 0), api.ErrText},
		{"a Field of a digit first", name("1A", 0), api.ErrText},
		{"a Field of a payload", name("A=", 0), api.ErrText},
		{"a Field of a long name", name(strings.Repeat("A", 65), 0), api.ErrText},
		{"an Entry of no items", &entry.Entry{Seq: 9}, api.ErrSize},
		{"an Entry of no bytes", obj.Put(api.Entry, nil), api.ErrSize},
		{"an Entry of half an item", obj.Put(api.Entry, make([]byte, 56)), api.ErrSize},
		{"an Entry of one item and a half", obj.Put(api.Entry, make([]byte, 72)), api.ErrSize},
		{"an Entry of number 0", &entry.Entry{Items: one}, api.ErrOrder},
		{"an Entry of number 0, of items that do not rise", &entry.Entry{Items: two}, api.ErrOrder},
		{"an Entry of items that do not rise", &entry.Entry{Seq: 9, Items: two}, api.ErrItems},
		{"an Array of no items", &entry.Array{}, api.ErrSize},
		{"an Array of no bytes", obj.Put(api.Array, nil), api.ErrSize},
		{"an Array of half an item", obj.Put(api.Array, make([]byte, 12)), api.ErrSize},
		{"a DataTable of no slots", &table{kind: api.DataTable}, api.ErrSize},
		{"a DataTable of half a slot", obj.Put(api.DataTable, make([]byte, 8)), api.ErrSize},
		{"a DataTable of one slot and a half", obj.Put(api.DataTable, make([]byte, 24)), api.ErrSize},
		{"a FieldTable of no slots", &table{kind: api.FieldTable}, api.ErrSize},
		{"a FieldTable of one slot and a half", obj.Put(api.FieldTable, make([]byte, 24)), api.ErrSize},
	}
}

// P14.2: each object as it stands, by its kind; at its place. It is asked ahead
// of what the head counts.
func TestWrongAlone(t *testing.T) {
	for _, keyed := range []bool{true, false} {
		rows := [][]string{{"A=1", "B=1"}, {"A=1"}}
		right := written(t, config(3, 2, keyed), rows...)
		for _, c := range wrongAlone(apart(t, right)) {
			s := apart(t, right)
			at := s.lay(c.x)
			isCheck(t, c.what, s.bytes(), at, c.code)
			s.lay(obj.Put(api.Tag, nil))
			s.lay(c.x)
			isCheck(t, c.what+", twice", s.bytes(), at, c.code)
			s.h.Objects, s.h.Datas, s.h.TailObject = 0, 0, 0
			isCheck(t, c.what+", with other counts", s.bytes(), at, c.code)
		}
	}
}

// P14.2: the first object that is wrong, in the order of their places, whatever
// their kinds and their codes are.
func TestFirstWrongAlone(t *testing.T) {
	all := wrongAlone(none(t))
	for _, first := range all {
		for _, second := range all {
			s := none(t)
			at := s.lay(first.x)
			s.lay(second.x)
			isCheck(t, first.what+", then "+second.what, s.bytes(), at, first.code)
		}
	}
}

// P14.2: the hashes are those that the journal's objects have: by its key, or
// without.
func TestHashesByTheKey(t *testing.T) {
	for _, keyed := range []bool{true, false} {
		right := written(t, config(3, 2, keyed), []string{"A=1"})
		s := apart(t, right)
		d, at := s.data("A=1")
		d.Hash = hash.Of(!keyed, s.h.File, d.Payload)
		isCheck(t, "a Data's hash of the other kind", s.bytes(), at, api.ErrHash)
		s = apart(t, right)
		f, at := s.field("A")
		f.Hash = hash.Of(!keyed, s.h.File, f.Payload)
		isCheck(t, "a Field's hash of the other kind", s.bytes(), at, api.ErrHash)
		s = apart(t, right)
		s.h.File[3]++
		_, at = s.data("A=1")
		want := api.Fine
		if keyed {
			want = api.ErrHash
		} else {
			at = 0
		}
		isCheck(t, "another key", s.bytes(), at, want)
	}
}

// P14.2: a name of 64 bytes, a value of 256, of any bytes, and none, are right.
func TestLongestPayloads(t *testing.T) {
	s := none(t)
	name := strings.Repeat("N", 64)
	for _, payload := range []string{name + "=" + strings.Repeat("\xff", 256), "A=", "_=a=b", "A1_=\x00\n"} {
		s.bind(&obj.Data{Hash: s.hash(payload), Payload: []byte(payload)})
	}
	for _, name := range []string{name, "_", "A1_"} {
		s.bindField(&obj.Field{Hash: s.hash(name), Payload: []byte(name)})
	}
	isCheck(t, "payloads and names as long as they may be", s.bytes(), 0, api.Fine)
}

// bind lays a Data, and makes it the last one of its chain.
func (s *sample) bind(d *obj.Data) uint64 {
	at := s.lay(d)
	slots := s.table(api.DataTable).slots
	slot := &slots[d.Hash%uint64(len(slots))]
	if slot.Head == 0 {
		slot.Head = at
	} else {
		s.laid[slot.Tail].(*obj.Data).NextHash = at
	}
	slot.Tail = at
	return at
}

// bindField lays a Field, and makes it the last one of its chain.
func (s *sample) bindField(f *obj.Field) uint64 {
	at := s.lay(f)
	slots := s.table(api.FieldTable).slots
	slot := &slots[f.Hash%uint64(len(slots))]
	if slot.Head == 0 {
		slot.Head = at
	} else {
		s.laid[slot.Tail].(*obj.Field).NextHash = at
	}
	slot.Tail = at
	return at
}

// P14.2: of a Tag, and of a table and an array that nothing is bound to, nothing
// more is asked.
func TestObjectsThatNothingIsBoundTo(t *testing.T) {
	s := some(t)
	s.lay(obj.Put(api.Tag, nil))
	s.lay(obj.Put(api.Tag, []byte{1, 2, 3}))
	s.lay(&table{api.DataTable, []entry.Slot{{Head: 1, Tail: 2}, {Head: s.end}}})
	s.lay(&table{api.FieldTable, []entry.Slot{{Head: 273, Tail: math.MaxUint64}}})
	s.lay(&entry.Array{Next: 1, Items: []uint64{9, 3, 3, math.MaxUint64}})
	isCheck(t, "objects that nothing is bound to", s.bytes(), 0, api.Fine)
}

// P14.2: ErrCount where the head counts other objects than there are, by their
// kinds; or names another last one.
func TestCounts(t *testing.T) {
	turns := map[string]func(s *sample) *uint64{
		"Objects":    func(s *sample) *uint64 { return &s.h.Objects },
		"Entries":    func(s *sample) *uint64 { return &s.h.Entries },
		"Datas":      func(s *sample) *uint64 { return &s.h.Datas },
		"Fields":     func(s *sample) *uint64 { return &s.h.Fields },
		"Tags":       func(s *sample) *uint64 { return &s.h.Tags },
		"Arrays":     func(s *sample) *uint64 { return &s.h.Arrays },
		"TailObject": func(s *sample) *uint64 { return &s.h.TailObject },
	}
	for what, of := range turns {
		for _, begin := range []func(t *testing.T) *sample{some, none} {
			s := begin(t)
			s.lay(obj.Put(api.Tag, nil))
			s.lay(obj.Put(api.Tag, nil))
			n := *of(s)
			for _, other := range []uint64{n + 1, n - 1, n + 8, n - 8, 0, 1 << 32, n + 1<<32, math.MaxUint64, s.end} {
				if *of(s) = other; other != n {
					isCheck(t, "another number of "+what, s.bytes(), 0, api.ErrCount)
				}
			}
			*of(s) = n
			isCheck(t, "the right number of "+what, s.bytes(), 0, api.Fine)
		}
	}
	s := some(t)
	s.h.Datas, s.h.Fields = s.h.Fields, s.h.Datas
	isCheck(t, "Datas and Fields for each other", s.bytes(), 0, api.ErrCount)
	s = some(t)
	s.h.TailObject = s.at[0]
	isCheck(t, "the first object as the last one", s.bytes(), 0, api.ErrCount)
}

// P14.2: what is counted is what stands one behind the other, not what is bound.
func TestCountsOfObjectsThatNothingIsBoundTo(t *testing.T) {
	s := some(t)
	s.lay(&entry.Array{Items: []uint64{1}})
	s.h.Arrays--
	isCheck(t, "an array too many", s.bytes(), 0, api.ErrCount)
	s.h.Arrays++
	isCheck(t, "that one, counted", s.bytes(), 0, api.Fine)
	s.lay(obj.Put(api.Tag, nil))
	s.h.TailObject = s.at[len(s.at)-2]
	isCheck(t, "the last one but one", s.bytes(), 0, api.ErrCount)
}
