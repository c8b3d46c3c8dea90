package check

import (
	"math"
	"testing"

	"diurnal/api"
	"diurnal/entry"
	"diurnal/obj"
)

// chained answers a right journal of one slot for all data and one for all
// fields: their chains have several objects each; and the data, and the fields,
// in the order in which they stand.
func chained(t *testing.T) (s *sample, data, fields []uint64) {
	t.Helper()
	s = apart(t, written(t, config(1, 1, true), []string{"A=1", "B=1"}, []string{"C=1"}, []string{"A=2"}))
	for _, at := range s.at {
		switch s.laid[at].(type) {
		case *obj.Data:
			data = append(data, at)
		case *obj.Field:
			fields = append(fields, at)
		}
	}
	return s, data, fields
}

// P14.2: arena's Table's code of the tables that the head names: the data's
// first, then the fields'; 0 beside it.
func TestWrongTables(t *testing.T) {
	tag := obj.Put(api.Tag, make([]byte, 48))
	for _, c := range []struct {
		what string
		turn func(s *sample)
		code int
	}{
		{"the fields' table as the data's", func(s *sample) { s.h.DataTable = s.h.FieldTable }, api.ErrType},
		{"a tag as the data's table", func(s *sample) { s.h.DataTable = s.lay(tag) + 16 }, api.ErrType},
		{"bytes of the data's table as that", func(s *sample) { s.h.DataTable += 8 }, api.ErrType},
		{"fewer slots for the data", func(s *sample) { s.h.DataSize -= 16 }, api.ErrCount},
		{"more slots for the data", func(s *sample) { s.h.DataSize += 16 }, api.ErrCount},
		{"the data's table as the fields'", func(s *sample) { s.h.FieldTable = s.h.DataTable }, api.ErrType},
		{"a tag as the fields' table", func(s *sample) { s.h.FieldTable = s.lay(tag) + 16 }, api.ErrType},
		{"bytes of the fields' table as that", func(s *sample) { s.h.FieldTable += 8 }, api.ErrType},
		{"fewer slots for the fields", func(s *sample) { s.h.FieldSize -= 16 }, api.ErrCount},
		{"more slots for the fields", func(s *sample) { s.h.FieldSize += 16 }, api.ErrCount},
		{"no data's table, and fewer slots for the fields", func(s *sample) { s.h.DataTable, s.h.FieldSize = s.h.FieldTable, 16 }, api.ErrType},
		{"fewer slots for the data, and no fields' table", func(s *sample) { s.h.FieldTable, s.h.DataSize = s.h.DataTable, 16 }, api.ErrCount},
		{"a wrong chain of data, and no fields' table", func(s *sample) { s.h.FieldTable, s.table(api.DataTable).slots[2].Head = s.h.DataTable, 1 }, api.ErrRange},
		{"no data's table, and a wrong chain of fields", func(s *sample) { s.h.DataTable, s.table(api.FieldTable).slots[0].Head = s.h.FieldTable, 1 }, api.ErrType},
	} {
		for _, begin := range []func(t *testing.T) *sample{some, none} {
			s := begin(t)
			s.lay(tag)
			isCheck(t, "a tag that nothing is bound to", s.bytes(), 0, api.Fine)
			c.turn(s)
			isCheck(t, c.what, s.bytes(), 0, c.code)
			s.h.Objects++
			isCheck(t, c.what+", with another count", s.bytes(), 0, api.ErrCount)
		}
	}
}

// P14.2: chain.Bucket's code, slot by slot: of the data's table, then of the
// fields'; 0 beside it.
func TestWrongChains(t *testing.T) {
	s, data, fields := chained(t)
	end := s.end
	for _, c := range []struct {
		what string
		next uint64
		code int
	}{
		{"below the head's end", 271, api.ErrRange}, {"1", 1, api.ErrRange}, {"no multiple of 8", data[1] + 4, api.ErrAlign},
		{"a table", 272, api.ErrType}, {"eight bytes ahead of the end", end - 8, api.ErrRange}, {"an entry", s.h.TailEntry, api.ErrType},
	} {
		for _, kind := range []int{api.DataTable, api.FieldTable} {
			s, _, _ := chained(t)
			s.table(kind).slots[0].Head = c.next
			isCheck(t, "a slot of "+c.what, s.bytes(), 0, c.code)
		}
	}
	for i, at := range data {
		for next, code := range map[uint64]int{at: api.ErrLoop, data[0]: api.ErrLoop, at - 1: api.ErrLoop, 8: api.ErrLoop, s.h.TailEntry: api.ErrType, fields[2]: api.ErrType} {
			if i == 3 && next == fields[2] {
				code = api.ErrLoop
			}
			s, _, _ := chained(t)
			s.laid[at].(*obj.Data).NextHash = next
			isCheck(t, "a chain of data", s.bytes(), 0, code)
			s.laid[fields[0]].(*obj.Field).NextHash = s.h.TailEntry + 4
			isCheck(t, "a chain of data, and one of fields", s.bytes(), 0, code)
		}
	}
	for i, at := range fields {
		for next, code := range map[uint64]int{at: api.ErrLoop, fields[0]: api.ErrLoop, at - 1: api.ErrLoop, 8: api.ErrLoop, s.h.TailEntry: api.ErrType, s.h.TailEntry + 4: api.ErrAlign} {
			s, _, _ := chained(t)
			s.laid[at].(*obj.Field).NextHash = next
			isCheck(t, "a chain of fields", s.bytes(), 0, code)
			s.laid[data[i]].(*obj.Data).NextHash = 0
			isCheck(t, "a chain of fields, and data that are in none", s.bytes(), 0, code)
		}
	}
}

// P14.2: the slots in their order.
func TestFirstWrongChain(t *testing.T) {
	for _, kind := range []int{api.DataTable, api.FieldTable} {
		for first := range none(t).table(kind).slots {
			for second := range first {
				s := none(t)
				slots := s.table(kind).slots
				slots[first].Head, slots[second].Head = 272, 300
				isCheck(t, "two wrong slots", s.bytes(), 0, api.ErrAlign)
				slots[first].Head, slots[second].Head = 300, 272
				isCheck(t, "two wrong slots", s.bytes(), 0, api.ErrType)
			}
		}
	}
}

// P14.2: ErrNone of a Data, a Field that is not in its chain, at its place: where
// a chain ends too soon, those behind.
func TestChainsThatEndTooSoon(t *testing.T) {
	s, data, fields := chained(t)
	for _, nothing := range []uint64{0, s.end, s.end + 1, math.MaxUint64} {
		for i := range data[1:] {
			s, _, _ := chained(t)
			s.laid[data[i]].(*obj.Data).NextHash = nothing
			isCheck(t, "a chain of data that ends too soon", s.bytes(), data[i+1], api.ErrNone)
		}
		for i := range fields[1:] {
			s, _, _ := chained(t)
			s.laid[fields[i]].(*obj.Field).NextHash = nothing
			isCheck(t, "a chain of fields that ends too soon", s.bytes(), fields[i+1], api.ErrNone)
		}
		s, _, _ := chained(t)
		s.table(api.DataTable).slots[0].Head = nothing
		isCheck(t, "no chain of data", s.bytes(), data[0], api.ErrNone)
		s.table(api.FieldTable).slots[0].Head = nothing
		isCheck(t, "no chains", s.bytes(), data[0], api.ErrNone)
		s, _, _ = chained(t)
		s.table(api.FieldTable).slots[0].Head = nothing
		isCheck(t, "no chain of fields", s.bytes(), fields[0], api.ErrNone)
	}
	for i := range data[1:] {
		s, _, _ := chained(t)
		s.table(api.DataTable).slots[0].Head = data[i+1]
		isCheck(t, "a chain that begins too late", s.bytes(), data[0], api.ErrNone)
	}
	s, _, _ = chained(t)
	s.laid[data[1]].(*obj.Data).NextHash = data[3]
	isCheck(t, "a chain that leaves one out", s.bytes(), data[2], api.ErrNone)
}

// P14.2: data and fields in the order of their places, and not by their kinds.
func TestFirstInNoChain(t *testing.T) {
	s, data, fields := chained(t)
	s.laid[data[2]].(*obj.Data).NextHash = 0
	s.laid[fields[1]].(*obj.Field).NextHash = 0
	isCheck(t, "a Field behind a Field, a Data behind it", s.bytes(), min(fields[2], data[3]), api.ErrNone)
	s, data, fields = chained(t)
	s.laid[data[1]].(*obj.Data).NextHash = 0
	s.laid[fields[0]].(*obj.Field).NextHash = 0
	isCheck(t, "a Field ahead of a Data", s.bytes(), fields[1], api.ErrNone)
	if fields[1] > data[2] || data[3] < fields[2] {
		t.Errorf("the journal is not laid as this test has it: %d, %d", data, fields)
	}
	s, data, fields = chained(t)
	s.laid[data[0]].(*obj.Data).NextHash = 0
	s.laid[fields[0]].(*obj.Field).NextHash = 0
	isCheck(t, "a Data ahead of a Field", s.bytes(), data[1], api.ErrNone)
}

// P14.2: the chain is that of the slot that the hash has modulo the slots: in
// another one it is not there.
func TestOtherChains(t *testing.T) {
	for _, kind := range []int{api.DataTable, api.FieldTable} {
		for i := range none(t).table(kind).slots {
			s := some(t)
			slots := s.table(kind).slots
			other := (i + 1) % len(slots)
			slots[i], slots[other] = slots[other], slots[i]
			first := math.MaxInt
			for at, x := range s.laid {
				hash, ok := hashOf(x, kind)
				if j := int(hash % uint64(len(slots))); ok && (j == i || j == other) {
					first = min(first, int(at))
				}
			}
			isCheck(t, "two slots for each other", s.bytes(), uint64(first), api.ErrNone)
		}
	}
	s := some(t)
	d, at := s.data("A=1")
	slots := s.table(api.DataTable).slots
	i := d.Hash % 3
	slots[(i+1)%3].Head, slots[i].Head = slots[i].Head, d.NextHash
	isCheck(t, "a Data in another chain", s.bytes(), at, api.ErrNone)
}

// hashOf answers an object's hash, if it is of the kind that is in chains of such
// a table.
func hashOf(x any, kind int) (uint64, bool) {
	switch x := x.(type) {
	case *obj.Data:
		return x.Hash, kind == api.DataTable
	case *obj.Field:
		return x.Hash, kind == api.FieldTable
	}
	return 0, false
}

// P14.2: it may be in other chains, too.
func TestInManyChains(t *testing.T) {
	s, data, fields := chained(t)
	for kind, first := range map[int]uint64{api.DataTable: data[0], api.FieldTable: fields[0]} {
		slots := make([]entry.Slot, 5)
		for i := range slots {
			slots[i] = entry.Slot{Head: first}
		}
		at := s.lay(&table{kind, slots}) + 16
		if kind == api.DataTable {
			s.h.DataTable, s.h.DataSize = at, 80
		} else {
			s.h.FieldTable, s.h.FieldSize = at, 80
		}
	}
	isCheck(t, "all in all chains, of tables elsewhere", s.bytes(), 0, api.Fine)
}

// P14.2: a right Data, a right Field that nothing is bound to: ErrNone, one that
// is there twice, too.
func TestInNoChain(t *testing.T) {
	for _, payload := range []string{"A=1", "A=7", "D="} {
		s := some(t)
		at := s.lay(&obj.Data{Hash: s.hash(payload), Payload: []byte(payload)})
		isCheck(t, "a Data in no chain", s.bytes(), at, api.ErrNone)
		s = some(t)
		s.bind(&obj.Data{Hash: s.hash(payload), Payload: []byte(payload)})
		isCheck(t, "that Data in its chain", s.bytes(), 0, api.Fine)
	}
	for _, name := range []string{"A", "Z"} {
		s := some(t)
		at := s.lay(&obj.Field{Hash: s.hash(name), Payload: []byte(name)})
		isCheck(t, "a Field in no chain", s.bytes(), at, api.ErrNone)
		s = some(t)
		s.bindField(&obj.Field{Hash: s.hash(name), Payload: []byte(name)})
		isCheck(t, "that Field in its chain", s.bytes(), 0, api.Fine)
	}
}

// P14.2: it is asked ahead of the entries.
func TestChainsAheadOfEntries(t *testing.T) {
	s := some(t)
	s.h.Array, s.h.HeadSeq = 8, 99
	isCheck(t, "wrong entries", s.bytes(), 0, api.ErrRange)
	at := s.lay(&obj.Data{Hash: s.hash("D="), Payload: []byte("D=")})
	isCheck(t, "wrong entries, and a Data in no chain", s.bytes(), at, api.ErrNone)
	s.table(api.FieldTable).slots[1].Head = 273
	isCheck(t, "wrong entries, a Data in no chain, a wrong chain", s.bytes(), 0, api.ErrAlign)
}

// P14.2: where a slot's chain ends, and its depth, and what the data of a field
// are bound by, is not asked.
func TestChainsAskNothingElse(t *testing.T) {
	s := some(t)
	for _, kind := range []int{api.DataTable, api.FieldTable} {
		for i := range s.table(kind).slots {
			s.table(kind).slots[i].Tail = 3
		}
	}
	for _, x := range s.laid {
		switch x := x.(type) {
		case *obj.Data:
			x.NextField = 5
		case *obj.Field:
			x.Data = 7
		}
	}
	s.h.DataDepth, s.h.FieldDepth = 99, 99
	isCheck(t, "tails, depths and fields' chains of any kind", s.bytes(), 0, api.Fine)
}
