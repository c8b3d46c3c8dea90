package jfile

import (
	"fmt"
	"math"
	"slices"
	"testing"

	"diurnal/api"
	"diurnal/arena"
	"diurnal/link"
)

// isTold tells where Open of these bytes, and what is asked of it then, does not
// answer what the chapter's words do. It answers the codes: of Open, of the list
// (0 beside one of Open), of the records.
func isTold(t *testing.T, what string, b []byte) (open, list int, records []int) {
	t.Helper()
	v, code := arena.Open(b)
	if code != api.Fine {
		isRefused(t, what, b, code)
		return code, 0, nil
	}
	places, list := link.Entries(v)
	f := isOpened(t, what, b, list, places...)
	isGood(t, what, f, toldGood(v, places)...)
	for i := range places {
		_, code := f.Record(i)
		records = append(records, code)
	}
	return api.Fine, list, records
}

// P15.1, P15.2: journals whose numbers are spoilt in many ways, against the
// chapter's words.
func TestSpoiltJournals(t *testing.T) {
	var opens, lists, all [api.ErrShort + 1]int
	for seed := range uint64(6000) {
		open, list, records := isTold(t, fmt.Sprint("seed ", seed), spoilt(t, seed))
		opens[open]++
		lists[list]++
		for _, code := range records {
			all[code]++
		}
	}
	for _, code := range []int{api.Fine, api.ErrRange, api.ErrSize, api.ErrAlign} {
		if opens[code] < 20 {
			t.Errorf("Open told %d only %d times", code, opens[code])
		}
	}
	for _, code := range []int{api.ErrCount, api.ErrLoop, api.ErrRange, api.ErrOrder, api.ErrType, api.ErrAlign} {
		if lists[code] < 20 {
			t.Errorf("Code was %d only %d times", code, lists[code])
		}
	}
	for _, code := range []int{api.Fine, api.ErrRange, api.ErrAlign, api.ErrType, api.ErrHash, api.ErrXor, api.ErrOrder, api.ErrItems} {
		if all[code] < 20 {
			t.Errorf("Record told %d only %d times", code, all[code])
		}
	}
}

// spoilt answers the bytes of a right journal in which some numbers, of the
// head, of entries, of arrays and anywhere, were changed, by the dice.
func spoilt(t *testing.T, seed uint64) []byte {
	t.Helper()
	throw := dice(seed)
	b := written(t, throw(2) == 0, uint64(throw(3)), some(1+throw(14))...)
	places, array := entries(t, b), opened(t, b).Head().Array
	end := uint64(len(b))
	values := slices.Concat(places, []uint64{0, 1, 8, 272, 276, array, array + 4, end - 8, end, end + 8, math.MaxUint64})
	for range 1 + throw(5) {
		v := values[throw(len(values))]
		e := places[throw(len(places))]
		switch throw(7) {
		case 0:
			b = put(t, b, e+entrySeq, uint64(throw(20)))
		case 1:
			b = put(t, b, e+entryXor, v)
		case 2:
			b = put(t, b, e+entryItems+8*uint64(throw(2)), v)
		case 3:
			b = put(t, b, item(array, throw(4)), v)
		case 4:
			b = put(t, b, array+arrayNext, v)
		case 5:
			b = put(t, b, 8*uint64(throw(len(b)/8)), v)
		case 6:
			// A number of the head: sizes, places and counts.
			if throw(2) == 0 {
				b = put(t, b, 88+8*uint64(throw(21)), v)
			}
		}
	}
	return b
}

// P0.1, P15.1, P15.2: with any byte spoilt, each call ends, and says what the
// chapter does.
func TestEachByteSpoilt(t *testing.T) {
	right := written(t, true, 0, some(6)...)
	for i := range right {
		for _, turn := range []byte{1, 0x08, 0x80, 0xff} {
			b := slices.Clone(right)
			b[i] ^= turn
			isTold(t, fmt.Sprint("byte ", i, " turned by ", turn), b)
		}
	}
}
