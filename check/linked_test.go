package check

import (
	"math"
	"testing"

	"diurnal/api"
	"diurnal/entry"
	"diurnal/obj"
)

// places answers where the sample's entries stand.
func (s *sample) places() []uint64 {
	var l []uint64
	for _, at := range s.at {
		if _, ok := s.laid[at].(*entry.Entry); ok {
			l = append(l, at)
		}
	}
	return l
}

// P14.2: link.Entries' code; 0 beside it. It is told ahead of any entry's code.
func TestWrongArraysOfAll(t *testing.T) {
	for _, c := range []struct {
		what string
		turn func(s *sample, a *entry.Array)
		code int
	}{
		{"no array", func(s *sample, a *entry.Array) { s.h.Array = 0 }, api.ErrCount},
		{"an array at the end", func(s *sample, a *entry.Array) { s.h.Array = s.end }, api.ErrCount},
		{"no second array", func(s *sample, a *entry.Array) { a.Next = 0 }, api.ErrCount},
		{"a second array beyond the end", func(s *sample, a *entry.Array) { a.Next = math.MaxUint64 }, api.ErrCount},
		{"the first array again", func(s *sample, a *entry.Array) { a.Next = s.h.Array }, api.ErrLoop},
		{"a table as an array", func(s *sample, a *entry.Array) { s.h.Array = 272 }, api.ErrType},
		{"an array in the head", func(s *sample, a *entry.Array) { s.h.Array = 264 }, api.ErrRange},
		{"an array at no multiple of 8", func(s *sample, a *entry.Array) { s.h.Array++ }, api.ErrAlign},
		{"a tag as the second array", func(s *sample, a *entry.Array) { a.Next = s.lay(obj.Put(api.Tag, nil)) }, api.ErrType},
		{"no first item", func(s *sample, a *entry.Array) { a.Items[0] = 0 }, api.ErrRange},
		{"an item at the end", func(s *sample, a *entry.Array) { a.Items[3] = s.end }, api.ErrRange},
		{"no last item", func(s *sample, a *entry.Array) { s.array(a.Next).Items[3] = 0 }, api.ErrRange},
		{"an item twice", func(s *sample, a *entry.Array) { a.Items[1] = a.Items[0] }, api.ErrOrder},
		{"two items for each other", func(s *sample, a *entry.Array) { a.Items[1], a.Items[2] = a.Items[2], a.Items[1] }, api.ErrOrder},
		{"a last item that does not rise", func(s *sample, a *entry.Array) { s.array(a.Next).Items[3] = 1 }, api.ErrOrder},
	} {
		s := some(t)
		e, at := s.entry(1)
		c.turn(s, s.array(s.h.Array))
		isCheck(t, c.what, s.bytes(), 0, c.code)
		e.Xor, s.h.HeadSeq = 1, 0
		isCheck(t, c.what+", and a wrong entry", s.bytes(), 0, c.code)
		s = some(t)
		e, _ = s.entry(1)
		e.Xor, s.h.HeadSeq = 1, 0
		isCheck(t, "a wrong entry", s.bytes(), at, api.ErrXor)
	}
	s := none(t)
	s.h.Array = 8
	isCheck(t, "a wrong array that no entry asks for", s.bytes(), 0, api.Fine)
}

// P14.2: the entries are those that the arrays have, and no others: one that they
// don't have is not asked, but for its own form.
func TestEntriesOfTheArrays(t *testing.T) {
	s := some(t)
	e, _ := s.entry(4)
	e.Seq, e.Xor = 99, 1
	_, first := s.entry(1)
	s.array(s.h.Array).Items[0], s.array(s.h.Array).Items[3] = first, first+1
	_, third := s.entry(3)
	isCheck(t, "a place below the one ahead", s.bytes(), 0, api.ErrOrder)
	s.array(s.h.Array).Items[3] = third + 1
	isCheck(t, "a place within the one ahead", s.bytes(), third+1, api.ErrAlign)
	s.array(s.h.Array).Items[3] = third + 8
	isCheck(t, "another place within the one ahead", s.bytes(), third+8, api.ErrType)
	s = some(t)
	_, at := s.data("A=2")
	s.array(s.h.Array).Items[1] = at
	isCheck(t, "a Data as an entry", s.bytes(), at, api.ErrType)
	s.array(s.h.Array).Items[0] = 8
	isCheck(t, "a place in the head as an entry", s.bytes(), 8, api.ErrRange)
}

// P14.2: arena.Record's code, at the entry's place.
func TestWrongRecords(t *testing.T) {
	for _, c := range []struct {
		what string
		turn func(s *sample, e *entry.Entry)
		code int
	}{
		{"another hash of an item", func(s *sample, e *entry.Entry) { e.Items[0].Hash++ }, api.ErrHash},
		{"another hash of all", func(s *sample, e *entry.Entry) { e.Xor++ }, api.ErrXor},
		{"another Data", func(s *sample, e *entry.Entry) { _, e.Items[1].At = s.data("C=1") }, api.ErrHash},
		{"another Data and its hash", func(s *sample, e *entry.Entry) {
			d, at := s.data("C=1")
			e.Items[1] = entry.Item{At: at, Hash: d.Hash}
		}, api.ErrXor},
		{"an entry as an item", func(s *sample, e *entry.Entry) { _, e.Items[1].At = s.entry(8) }, api.ErrType},
		{"a place in the head as an item", func(s *sample, e *entry.Entry) { e.Items[0].At = 1 }, api.ErrRange},
		{"the end as an item", func(s *sample, e *entry.Entry) { e.Items[1].At = s.end }, api.ErrRange},
		{"a Data's place and 4 as an item", func(s *sample, e *entry.Entry) { e.Items[1].At += 4 }, api.ErrAlign},
	} {
		for _, seq := range []uint64{1, 3, 7} {
			s := some(t)
			e, at := s.entry(seq)
			c.turn(s, e)
			isCheck(t, c.what, s.bytes(), at, c.code)
			s.h.HeadSeq, s.h.TailSeq = 99, 0
			isCheck(t, c.what+", with other numbers in the head", s.bytes(), at, c.code)
			e.Seq = 2
			isCheck(t, c.what+", of a number that does not rise", s.bytes(), at, c.code)
		}
		for _, seq := range []uint64{1, 3, 7} {
			s := some(t)
			e, at := s.entry(seq)
			for _, item := range e.Items {
				d := s.laid[item.At].(*obj.Data)
				d.Count = uint64(len(has(s, string(d.Payload))) - 1)
			}
			c.turn(s, e)
			isCheck(t, c.what+", of data that count too few", s.bytes(), at, c.code)
		}
	}
}

// P14.2: an entry of 16 items is right, one of 17 is ErrLong.
func TestLongRecords(t *testing.T) {
	var row []string
	for i := range 16 {
		row = append(row, "A="+string(rune('a'+i)))
	}
	s := apart(t, written(t, config(3, 2, true), []string{"B=1"}, row))
	isCheck(t, "16 items", s.bytes(), 0, api.Fine)
	s.add(3, row...)
	isCheck(t, "16 items, laid by hand", s.bytes(), 0, api.Fine)
	_, at := s.add(4, append([]string{"B=1"}, row...)...)
	isCheck(t, "17 items", s.bytes(), at, api.ErrLong)
}

// P14.2: ErrOrder where a number is not above the one ahead, at the entry's
// place.
func TestNumbersThatDoNotRise(t *testing.T) {
	s := some(t)
	places := s.places()
	for i := uint64(2); i <= 8; i++ {
		for _, seq := range []uint64{1, i - 1} {
			s := some(t)
			e, at := s.entry(i)
			e.Seq = seq
			isCheck(t, "a number that does not rise", s.bytes(), at, api.ErrOrder)
			s.h.HeadSeq, s.h.TailSeq = 0, 0
			isCheck(t, "a number that does not rise, and other ones in the head", s.bytes(), at, api.ErrOrder)
		}
	}
	e, _ := s.entry(3)
	e.Seq = 4
	isCheck(t, "a number as the one behind", s.bytes(), places[3], api.ErrOrder)
	e.Seq = math.MaxUint64
	isCheck(t, "a number above those behind", s.bytes(), places[3], api.ErrOrder)
}

// P14.2: numbers may leave some out, and begin anywhere.
func TestNumbersThatRise(t *testing.T) {
	s := some(t)
	for i := uint64(8); i > 0; i-- {
		e, _ := s.entry(i)
		e.Seq = i*i + 40
	}
	s.h.HeadSeq, s.h.TailSeq = 41, 104
	isCheck(t, "numbers that leave some out", s.bytes(), 0, api.Fine)
	e, _ := s.entry(104)
	e.Seq, s.h.TailSeq = math.MaxUint64, math.MaxUint64
	isCheck(t, "the last number of all", s.bytes(), 0, api.Fine)
}

// P14.2: link.Of's code, at the first entry that has that Data.
func TestWrongArraysOfData(t *testing.T) {
	for _, c := range []struct {
		what string
		turn func(s *sample, d *obj.Data, a *entry.Array)
		code int
	}{
		{"the same array again", func(s *sample, d *obj.Data, a *entry.Array) { a.Next = d.Array }, api.ErrLoop},
		{"a table as an array", func(s *sample, d *obj.Data, a *entry.Array) { d.Array = 272 }, api.ErrType},
		{"an array in the head", func(s *sample, d *obj.Data, a *entry.Array) { d.Array = 8 }, api.ErrRange},
		{"an array at no multiple of 8", func(s *sample, d *obj.Data, a *entry.Array) { a.Next++ }, api.ErrAlign},
		{"a first item that does not rise", func(s *sample, d *obj.Data, a *entry.Array) { a.Items[0] = d.Entry }, api.ErrOrder},
		{"a last item that does not rise", func(s *sample, d *obj.Data, a *entry.Array) { s.array(a.Next).Items[1] = 1 }, api.ErrOrder},
	} {
		s := some(t)
		d, _ := s.data("A=1")
		c.turn(s, d, s.array(d.Array))
		isCheck(t, c.what, s.bytes(), s.places()[0], c.code)
		s.h.HeadSeq = 99
		isCheck(t, c.what+", and another first number", s.bytes(), s.places()[0], c.code)
		e, at := s.entry(1)
		e.Xor++
		isCheck(t, c.what+", and another hash of all", s.bytes(), at, api.ErrXor)
	}
	s := some(t)
	d, _ := s.data("A=2")
	d.Count, d.Array = 2, 272
	isCheck(t, "an array of a Data that the third one has", s.bytes(), s.places()[2], api.ErrType)
	e, at := s.entry(3)
	e.Seq = 2
	isCheck(t, "that, and a number that does not rise", s.bytes(), at, api.ErrOrder)
	s = some(t)
	s.bind(&obj.Data{Hash: s.hash("D="), Count: 2, Entry: 8, Array: 272, Payload: []byte("D=")})
	isCheck(t, "an array of a Data that no entry has", s.bytes(), 0, api.Fine)
}

// P14.2: ErrNone where an entry's Data does not have it, at the entry's place.
func TestDataWithoutTheirEntries(t *testing.T) {
	s := some(t)
	places := s.places()
	for n := range uint64(7) {
		s := some(t)
		d, _ := s.data("A=1")
		d.Count = n
		isCheck(t, "a Data that counts too few", s.bytes(), has(s, "A=1")[n], api.ErrNone)
		d.Count = math.MaxUint64 - n
		isCheck(t, "a Data that counts too many", s.bytes(), 0, api.Fine)
	}
	for _, c := range []struct {
		what  string
		turn  func(d *obj.Data, a *entry.Array)
		which int
	}{
		{"no Entry", func(d *obj.Data, a *entry.Array) { d.Entry = 0 }, 0},
		{"the end as its Entry", func(d *obj.Data, a *entry.Array) { d.Entry = s.end }, 0},
		{"another Entry", func(d *obj.Data, a *entry.Array) { d.Entry = places[0] - 8 }, 0},
		{"no array", func(d *obj.Data, a *entry.Array) { d.Array = 0 }, 1},
		{"no first item", func(d *obj.Data, a *entry.Array) { a.Items[0] = 0 }, 1},
		{"another second item", func(d *obj.Data, a *entry.Array) { a.Items[1]++ }, 2},
		{"an entry that has it not", func(d *obj.Data, a *entry.Array) { a.Items[0], a.Items[1] = places[1], places[2] }, 2},
		{"a last item beyond the end", func(d *obj.Data, a *entry.Array) { a.Items[3] = s.end + 8 }, 4},
		{"no second array", func(d *obj.Data, a *entry.Array) { a.Next = s.end }, 5},
	} {
		s := some(t)
		d, _ := s.data("A=1")
		c.turn(d, s.array(d.Array))
		isCheck(t, c.what, s.bytes(), has(s, "A=1")[c.which], api.ErrNone)
		s.h.TailSeq = 0
		isCheck(t, c.what+", and another last number", s.bytes(), has(s, "A=1")[c.which], api.ErrNone)
	}
}

// has answers where the entries stand that have that payload.
func has(s *sample, payload string) []uint64 {
	_, data := s.data(payload)
	var l []uint64
	for _, at := range s.places() {
		for _, item := range s.laid[at].(*entry.Entry).Items {
			if item.At == data {
				l = append(l, at)
			}
		}
	}
	return l
}

// P14.2: item by item: each one's code of link.Of, and whether it has the entry,
// ahead of the next one's.
func TestFirstWrongItem(t *testing.T) {
	for _, c := range []struct {
		what string
		turn func(a, b *obj.Data)
		code int
	}{
		{"the second one has it not", func(a, b *obj.Data) { b.Count = 0 }, api.ErrNone},
		{"the first one has it not, the second one is wrong", func(a, b *obj.Data) { a.Count, b.Array = 0, 272 }, api.ErrNone},
		{"the first one is wrong, the second one has it not", func(a, b *obj.Data) { a.Array, b.Count = 272, 0 }, api.ErrType},
		{"both are wrong", func(a, b *obj.Data) { a.Array, b.Array = 1, 272 }, api.ErrRange},
		{"the second one is wrong", func(a, b *obj.Data) { b.Array = 1 }, api.ErrRange},
	} {
		s := some(t)
		a, _ := s.data("A=1")
		b, _ := s.data("B=1")
		c.turn(a, b)
		isCheck(t, c.what, s.bytes(), s.places()[0], c.code)
	}
}

// P14.2: entry by entry: each one's codes ahead of the next one's.
func TestFirstWrongEntry(t *testing.T) {
	turns := []struct {
		turn func(s *sample, e *entry.Entry)
		code int
	}{
		{func(s *sample, e *entry.Entry) { e.Xor++ }, api.ErrXor},
		{func(s *sample, e *entry.Entry) { e.Items[0].Hash++ }, api.ErrHash},
		{func(s *sample, e *entry.Entry) { e.Seq = 1 }, api.ErrOrder},
		{func(s *sample, e *entry.Entry) { s.laid[e.Items[1].At].(*obj.Data).Count = 0 }, api.ErrNone},
		{func(s *sample, e *entry.Entry) {
			d := s.laid[e.Items[1].At].(*obj.Data)
			d.Count, d.Array = 2, 272
		}, api.ErrType},
	}
	for i, first := range turns {
		for j, second := range turns {
			s := some(t)
			e, at := s.entry(5)
			f, _ := s.entry(7)
			second.turn(s, f)
			first.turn(s, e)
			isCheck(t, "two wrong entries", s.bytes(), at, first.code)
			if i == 2 && j == 2 {
				s.h.HeadSeq, s.h.TailSeq = 2, 3
				isCheck(t, "two wrong entries, and other numbers in the head", s.bytes(), at, first.code)
			}
		}
	}
}

// P14.2: ErrOrder where HeadSeq is not the first number, or TailSeq is below the
// last one; 0 beside it.
func TestHeadsNumbers(t *testing.T) {
	for _, n := range []uint64{0, 2, 8, 9, math.MaxUint64} {
		s := some(t)
		s.h.HeadSeq = n
		isCheck(t, "another first number", s.bytes(), 0, api.ErrOrder)
	}
	for n := range uint64(8) {
		s := some(t)
		s.h.TailSeq = n
		isCheck(t, "a last number that is too low", s.bytes(), 0, api.ErrOrder)
	}
	for _, n := range []uint64{8, 9, 1 << 63, math.MaxUint64} {
		s := some(t)
		s.h.TailSeq = n
		isCheck(t, "a last number that is as high, or more", s.bytes(), 0, api.Fine)
	}
	for _, n := range []uint64{0, 1, 7, math.MaxUint64} {
		s := none(t)
		s.h.TailSeq = n
		isCheck(t, "no entries, any last number", s.bytes(), 0, api.Fine)
		if s.h.HeadSeq = n; n != 0 {
			isCheck(t, "no entries, and a first number", s.bytes(), 0, api.ErrOrder)
		}
	}
}

// P14.2: all else is not asked: when entries were written, where the last ones
// stand, what is above a Data's own entries.
func TestEntriesAskNothingElse(t *testing.T) {
	s := some(t)
	s.h.Compat, s.h.Machine, s.h.Boot, s.h.Seq = 9, api.ID{9}, api.ID{8}, api.ID{7}
	s.h.HeadReal, s.h.TailReal, s.h.TailMono = 9, 8, 7
	s.h.TailArray, s.h.TailItems, s.h.TailEntry = 9, 8, 7
	for _, state := range []int{api.Offline, api.Online, api.Archived} {
		s.h.State = state
		isCheck(t, "a head of another kind", s.bytes(), 0, api.Fine)
	}
	for i, at := range s.places() {
		e := s.laid[at].(*entry.Entry)
		e.Real, e.Mono, e.Boot = uint64(9-i), uint64(7-i), api.ID{9}
	}
	isCheck(t, "entries of other times", s.bytes(), 0, api.Fine)
	d, _ := s.data("B=2")
	d.Entry, d.Count = s.places()[2], 2
	d.Array = s.lay(&entry.Array{Items: []uint64{s.places()[6], 3}})
	isCheck(t, "a Data with an entry that has it not", s.bytes(), 0, api.Fine)
	s.last(s.h.Array).Items[4] = 1
	s.last(s.h.Array).Next = 5
	isCheck(t, "an array with more than there are", s.bytes(), 0, api.Fine)
}
