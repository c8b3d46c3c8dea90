package seek

import (
	"fmt"
	"math"
	"slices"
	"testing"

	"diurnal/api"
	"diurnal/jfile"
)

// P16.1, P16.2: journals whose numbers, times and boots are thrown, some of
// them wrong, against the chapter's words.
func TestThrownJournals(t *testing.T) {
	var lengths [20]int
	for seed := range uint64(2000) {
		f, code := jfile.Open(thrown(t, seed))
		if code != api.Fine {
			t.Fatalf("seed %d: Open: %d", seed, code)
		}
		lengths[isIndex(t, fmt.Sprint("seed ", seed), f).Len()]++
	}
	for n := range 12 {
		if lengths[n] < 5 {
			t.Errorf("%d entries were right only %d times", n, lengths[n])
		}
	}
}

// thrown answers the bytes of a journal with some entries, by the dice.
func thrown(t *testing.T, seed uint64) []byte {
	t.Helper()
	throw := dice(seed)
	var times []stamp
	for range throw(20) {
		times = append(times, stamp{uint64(throw(12)), uint64(throw(8)), byte(throw(3))})
	}
	b := written(t, uint64(throw(3)), times...)
	for i, at := range entries(t, b) {
		switch throw(8) {
		case 0:
			b = put(t, b, at+entrySeq, uint64(throw(25)))
		case 1:
			b = put(t, b, at+entryXor, 1)
		case 2:
			b = put(t, b, at+entryReal, []uint64{0, 1 << 63, math.MaxUint64}[throw(3)])
		case 3:
			b = put(t, b, at+entryMono, []uint64{0, 1 << 63, math.MaxUint64}[throw(3)])
		case 4:
			b = put(t, b, at+entrySeq, uint64(2*i+5))
		}
	}
	return b
}

// P0.1, P16.1, P16.2: with any byte spoilt, each call ends, and says what the
// chapter does.
func TestEachByteSpoilt(t *testing.T) {
	right := written(t, 0, rising(6)...)
	for i := range right {
		for _, turn := range []byte{1, 0x08, 0x80, 0xff} {
			b := slices.Clone(right)
			b[i] ^= turn
			if f, code := jfile.Open(b); code == api.Fine {
				isIndex(t, fmt.Sprint("byte ", i, " turned by ", turn), f)
			}
		}
	}
}
