package jfile

import (
	"fmt"
	"math"
	"slices"
	"testing"

	"diurnal/api"
	"diurnal/entry"
	"diurnal/hash"
	"diurnal/head"
)

// P15.2: right is what has a number above those of all right ones ahead.
func TestNumbersOfEntries(t *testing.T) {
	const top = math.MaxUint64
	for _, c := range []struct {
		seqs []uint64
		want []int
	}{
		{[]uint64{1}, []int{0}},
		{[]uint64{top}, []int{0}},
		{[]uint64{1, 2, 3, 4}, []int{0, 1, 2, 3}},
		{[]uint64{7, 8, 100, 1 << 40, 1 << 63, top}, []int{0, 1, 2, 3, 4, 5}},
		{[]uint64{1, 1, 1}, []int{0}},
		{[]uint64{1, 1, 2, 2, 3}, []int{0, 2, 4}},
		{[]uint64{3, 2, 1}, []int{0}},
		{[]uint64{3, 2, 3, 4}, []int{0, 3}},
		// The one that stands ahead is not right: it is not held against.
		{[]uint64{5, 3, 4, 6}, []int{0, 3}},
		{[]uint64{5, 1, 2, 3, 4, 5, 6, 7}, []int{0, 6, 7}},
		{[]uint64{1, 10, 2, 5, 11, 10, 12}, []int{0, 1, 4, 6}},
		{[]uint64{1, top, 2, 3, top}, []int{0, 1}},
		{[]uint64{1, top - 1, top, top}, []int{0, 1, 2}},
		// As numbers without a sign, of 64 bits.
		{[]uint64{1<<63 - 1, 1 << 63, 1}, []int{0, 1}},
		{[]uint64{1<<32 + 1, 1<<32 + 2, 3}, []int{0, 1}},
		// 0 is no number of an entry.
		{[]uint64{0}, nil},
		{[]uint64{0, 0, 1, 0, 2, 0}, []int{2, 4}},
	} {
		b, places := numbered(t, c.seqs...)
		f := isOpened(t, fmt.Sprint(c.seqs), b, api.Fine, places...)
		isGood(t, fmt.Sprint(c.seqs), f, c.want...)
	}
}

// P15.2: what is not Fine is not right, and its number hinders no other one.
func TestNumbersOfWrongEntries(t *testing.T) {
	for _, c := range []struct {
		seqs  []uint64
		wrong []int
		want  []int
	}{
		{[]uint64{1, 2, 3}, []int{1}, []int{0, 2}},
		{[]uint64{1, 2, 3}, []int{0, 1, 2}, nil},
		{[]uint64{1, 100, 2, 3}, []int{1}, []int{0, 2, 3}},
		{[]uint64{math.MaxUint64, 1, 2}, []int{0}, []int{1, 2}},
		{[]uint64{9, 8, 7, 8}, []int{0, 1}, []int{2, 3}},
		{[]uint64{1, 2, 2, 2}, []int{1, 2}, []int{0, 3}},
		{[]uint64{2, 1, 2, 3}, []int{2}, []int{0, 3}},
		{[]uint64{5, 9, 4, 6}, []int{1}, []int{0, 3}},
		{[]uint64{1, 2, 3, 4, 5, 6}, []int{5}, []int{0, 1, 2, 3, 4}},
	} {
		b, places := numbered(t, c.seqs...)
		for _, i := range c.wrong {
			b = put(t, b, places[i]+entryXor, 1)
		}
		what := fmt.Sprint(c.seqs, " without ", c.wrong)
		f := isOpened(t, what, b, api.Fine, places...)
		for _, i := range c.wrong {
			isRecord(t, what, f, i, api.ErrXor, api.Record{})
		}
		isGood(t, what, f, c.want...)
	}
}

// P15.1, P15.2: whatever code Record tells, nothing stands beside it, and that
// entry is not right; the others are.
func TestEachKindOfWrongEntry(t *testing.T) {
	b := written(t, true, 0, "A=1", "B=1 C=1", "D=1", "E=1")
	places := entries(t, b)
	e := places[1]
	c := get(t, b, e+entryItems+16)
	long := entry.Entry{Seq: 2}
	for k := range uint64(api.MaxFields + 1) {
		long.Items = append(long.Items, entry.Item{At: k, Hash: k})
	}
	text := slices.Clone(b)
	text[c+dataPayload] = 'c'
	keyed := hash.Sip(api.ID{1, 2}, []byte("c=1"))
	text = put(t, put(t, text, c+dataHash, keyed), e+entryItems+16+itemHash, keyed)
	for _, w := range []struct {
		b    []byte
		code int
	}{
		{put(t, b, e, 1), api.ErrType},
		{put(t, b, e, 8), api.ErrType},
		{put(t, b, e, 1<<8|api.Entry), api.ErrFlags},
		{put(t, b, e+8, 15), api.ErrSize},
		{put(t, b, e+8, 64), api.ErrSize},
		{put(t, b, e+8, 1<<63), api.ErrRange},
		{put(t, b, e+entrySeq, 0), api.ErrOrder},
		{put(t, b, e+entryXor, 1), api.ErrXor},
		{put(t, b, e+entryItems, c), api.ErrItems},
		{put(t, b, e+entryItems, 0), api.ErrRange},
		{put(t, b, e+entryItems, 276), api.ErrAlign},
		{put(t, b, e+entryItems+itemHash, 1), api.ErrHash},
		{put(t, b, e+entryItems+16, uint64(len(b))), api.ErrRange},
		{put(t, b, c+dataHash, 1), api.ErrHash},
		{put(t, b, c, api.Field), api.ErrType},
		{text, api.ErrText},
	} {
		what := fmt.Sprint("a second entry of code ", w.code)
		f := isOpened(t, what, w.b, api.Fine, places...)
		isRecord(t, what, f, 1, w.code, api.Record{})
		isGood(t, what, f, 0, 2, 3)
	}
	more, at := laid(t, b, entry.Put(long))
	more = put(t, more, item(opened(t, b).Head().Array, 3), at)
	f := isOpened(t, "a last entry of 17 items", more, api.Fine, places[0], places[1], places[2], at)
	isRecord(t, "a last entry of 17 items", f, 3, api.ErrLong, api.Record{})
	isGood(t, "a last entry of 17 items", f, 0, 1, 2)
}

// P15.2: where a Data is wrong, so is each entry that has it.
func TestWrongDataOfManyEntries(t *testing.T) {
	b := written(t, false, 0, "A=1 B=1", "B=1", "A=1", "C=1", "A=1 C=1", "B=2")
	places := entries(t, b)
	a := get(t, b, places[0]+entryItems)
	f := isOpened(t, "a wrong Data", put(t, b, a+dataHash, 1), api.Fine, places...)
	for _, i := range []int{0, 2, 4} {
		isRecord(t, "a wrong Data", f, i, api.ErrHash, api.Record{})
	}
	isGood(t, "a wrong Data", f, 1, 3, 5)
}

// P15.2: what the chains, and the head, tell of the entries and their numbers is
// not asked.
func TestWhatGoodDoesNotAsk(t *testing.T) {
	b := written(t, true, 0, some(6)...)
	places := entries(t, b)
	a := get(t, b, places[0]+entryItems)
	for k := range uint64(5) {
		// Behind the Hash: NextHash, NextField, Entry, Array, Count.
		f := isOpened(t, "a Data that is bound otherwise", put(t, b, a+dataHash+8*(k+1), 1), api.Fine, places...)
		isGood(t, "a Data that is bound otherwise", f, upTo(6)...)
	}
	for i, turn := range []func(h *head.Head){
		func(h *head.Head) { h.HeadSeq, h.TailSeq = 4, 3 },
		func(h *head.Head) { h.HeadSeq, h.TailSeq = 0, 0 },
		func(h *head.Head) { h.Objects, h.Datas, h.Fields, h.Arrays, h.Tags = 0, 0, 0, 0, 1 },
		func(h *head.Head) { h.TailEntry, h.TailArray, h.TailItems, h.TailObject = 1, 1, 1, 1 },
		func(h *head.Head) { h.Boot, h.HeadReal, h.TailReal, h.TailMono = api.ID{9}, 1, 1, 1 },
	} {
		what := fmt.Sprint("turn ", i, " of the head")
		f := isOpened(t, what, headed(t, b, turn), api.Fine, places...)
		isGood(t, what, f, upTo(6)...)
	}
}

// P15.2: neither the times nor the boots of entries matter, nor whether two are
// the same but for the number.
func TestTimesDoNotMatter(t *testing.T) {
	b := written(t, true, 0, "A=1", "A=1", "A=1")
	places := entries(t, b)
	for i, p := range places {
		b = put(t, put(t, b, p+24, uint64(9-i)), p+32, 0)
	}
	isGood(t, "times that fall", isOpened(t, "times that fall", b, api.Fine, places...), 0, 1, 2)
}

// P15.2: a first number, whatever it is, is right.
func TestFirstNumber(t *testing.T) {
	for _, after := range []uint64{0, 1, 1 << 32, 1<<63 - 2, math.MaxUint64 - 3} {
		f := opened(t, written(t, true, after, "A=1", "A=2", "A=3"))
		isGood(t, fmt.Sprint("numbers behind ", after), f, 0, 1, 2)
	}
}

// P0.4, P0.5: Good answers new memory each time, and the same, whatever was
// asked ahead.
func TestGoodAgain(t *testing.T) {
	b, places := numbered(t, 1, 5, 2, 6, 7)
	f := isOpened(t, "the journal", b, api.Fine, places...)
	want := []int{0, 1, 3, 4}
	isGood(t, "the first time", f, want...)
	l := f.Good()
	spare := f.Good()
	_ = append(l[:2], 7, 7, 7, 7)
	clear(l[:cap(l)])
	if !slices.Equal(spare, want) {
		t.Errorf("Good handed out before: %v", spare)
	}
	isGood(t, "behind a change of it", f, want...)
	f.Record(4)
	f.Record(-1)
	isGood(t, "behind Record", f, want...)
	isGood(t, "of another one of the same bytes", opened(t, b), want...)
}
