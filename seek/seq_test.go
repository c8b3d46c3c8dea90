package seek

import (
	"fmt"
	"math"
	"slices"
	"testing"

	"diurnal/api"
	"diurnal/field"
)

// P16.1, P16.2: in the index of a new journal is nothing; Seq looks at one
// number at most.
func TestEmptyIndex(t *testing.T) {
	for _, after := range []uint64{0, 7, math.MaxUint64} {
		x := isIndex(t, "a new journal", opened(t, written(t, after)))
		for _, n := range []uint64{0, 1, 7, 8, math.MaxUint64} {
			if k, looked := x.Seq(n); k != 0 || looked < 0 || looked > 1 {
				t.Errorf("Seq(%d): %d, %d looked at", n, k, looked)
			}
			isReal(t, "a new journal", x, n, 0)
			isMono(t, "a new journal", x, api.ID{}, n, -1)
		}
	}
}

// P16.1: Seq finds each number, and what is between, ahead and behind, with no
// more looks than Len has digits, and 1: about each number of digits.
func TestSeqOfEachLength(t *testing.T) {
	lengths := []int{1, 2, 3, 4, 5, 6, 7, 8, 9, 15, 16, 17, 31, 32, 33, 63, 64, 65, 127, 128, 129, 255, 256, 257}
	for _, n := range lengths {
		what := fmt.Sprint(n, " entries")
		x := New(opened(t, written(t, 40, rising(n)...)))
		if x.Len() != n {
			t.Fatalf("%s: Len %d", what, x.Len())
		}
		for k := range n {
			isSeq(t, what, x, 41+uint64(k), k)
		}
		for _, none := range []uint64{0, 1, 39, 40} {
			isSeq(t, what, x, none, 0)
		}
		for _, beyond := range []uint64{uint64(41 + n), uint64(42 + n), 1 << 40, 1 << 63, math.MaxUint64} {
			isSeq(t, what, x, beyond, n)
		}
	}
}

// P16.1: what is told of an index of nine is told by five looks at most.
func TestLooksAtNine(t *testing.T) {
	x := New(opened(t, written(t, 0, rising(9)...)))
	for n := range uint64(12) {
		if k, looked := x.Seq(n); looked > 5 || looked < 1 {
			t.Errorf("Seq(%d): %d, %d looked at", n, k, looked)
		}
	}
}

// P16.1: numbers that leave out some are found from each one between.
func TestNumbersApart(t *testing.T) {
	for _, c := range [][]uint64{
		{5}, {math.MaxUint64}, {1, math.MaxUint64}, {3, 7, 9, 100}, {2, 4, 6, 8, 10, 12, 14},
		{1, 1 << 8, 1 << 16, 1 << 32, 1 << 48, 1 << 63, math.MaxUint64 - 1, math.MaxUint64},
	} {
		what := fmt.Sprint("the numbers ", c)
		x := isIndex(t, what, opened(t, numbered(t, c...)))
		for k, n := range c {
			isSeq(t, what, x, n, k)
			isSeq(t, what, x, n-1, max(0, slices.IndexFunc(c, func(m uint64) bool { return m >= n-1 })))
		}
	}
}

// P16.1: entries that are not right are none of the index: their numbers are
// not found, those behind them stand one place further to the front.
func TestWrongEntriesAreLeftOut(t *testing.T) {
	for _, c := range []struct{ seqs, want []uint64 }{
		{[]uint64{0, 0, 0}, nil},
		{[]uint64{0, 1, 0, 2}, []uint64{1, 2}},
		{[]uint64{4, 4, 5, 5, 6}, []uint64{4, 5, 6}},
		{[]uint64{3, 9, 5, 8, 9, 10, 2}, []uint64{3, 9, 10}},
		{[]uint64{9, 8, 7, 6, 5}, []uint64{9}},
		{[]uint64{math.MaxUint64, 1, 2}, []uint64{math.MaxUint64}},
	} {
		what := fmt.Sprint("the numbers ", c.seqs)
		x := isIndex(t, what, opened(t, numbered(t, c.seqs...)))
		if x.Len() != len(c.want) {
			t.Fatalf("%s: Len %d; want %d", what, x.Len(), len(c.want))
		}
		for k, n := range c.want {
			if r, ok := x.Record(k); !ok || r.Seq != n {
				t.Errorf("%s: Record(%d): %d, %v; want %d", what, k, r.Seq, ok, n)
			}
			isSeq(t, what, x, n, k)
		}
	}
}

// P16.1: an entry with a code is none of the index, wherever it stands.
func TestEntriesWithACode(t *testing.T) {
	right := written(t, 0, rising(6)...)
	l := entries(t, right)
	for i := range 6 {
		what := fmt.Sprint("another Xor in entry ", i)
		x := isIndex(t, what, opened(t, put(t, right, l[i]+entryXor, 1)))
		if x.Len() != 5 {
			t.Fatalf("%s: Len %d", what, x.Len())
		}
		isSeq(t, what, x, uint64(i+1), i)
		isSeq(t, what, x, uint64(i+2), i)
		isSeq(t, what, x, 7, 5)
	}
	b := right
	for _, at := range l {
		b = put(t, b, at+entryXor, 1)
	}
	isIndex(t, "another Xor in each entry", opened(t, b))
}

// P16.1: Record is the k-th right one, with all it has; beside a false it is
// nothing.
func TestRecord(t *testing.T) {
	times := rising(7)
	x := New(opened(t, written(t, 10, times...)))
	for i, s := range times {
		want := api.Record{Seq: 11 + uint64(i), Real: s.real, Mono: s.mono, Boot: api.ID{s.boot}, Fields: pairs(i)}
		isRecord(t, "the journal", x, i, &want)
	}
	for _, k := range []int{math.MinInt, math.MinInt32, -7, -1, 7, 8, 1 << 20, math.MaxInt} {
		isRecord(t, "the journal", x, k, nil)
	}
}

// P0.4, P0.5: what is handed out is new memory, and what was asked ahead does
// not matter.
func TestRecordAgain(t *testing.T) {
	b := written(t, 0, rising(5)...)
	f := opened(t, b)
	x := New(f)
	want, _ := x.Record(3)
	got, _ := x.Record(3)
	_ = append(got.Fields[:1], api.Pair{Name: "Z"})
	clear(got.Fields[:cap(got.Fields)])
	if again, _ := x.Record(3); !field.SameRecord(again, want) || len(again.Fields) != 2 {
		t.Errorf("Record(3) behind a change of it: %+v; want %+v", again, want)
	}
	good := f.Good()
	clear(good)
	clear(b)
	isRecord(t, "behind a change of the bytes", x, 3, &want)
	isSeq(t, "behind a change of the bytes", x, 4, 3)
	isReal(t, "behind a change of the bytes", x, 130, 3)
	isIndex(t, "another one of the same journal", f)
}
