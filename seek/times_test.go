package seek

import (
	"fmt"
	"math"
	"testing"

	"diurnal/api"
)

// P16.2: of times that rise, Real is the first one from there on.
func TestRealOfTimesThatRise(t *testing.T) {
	x := isIndex(t, "the journal", opened(t, written(t, 5, rising(9)...)))
	for k := range 9 {
		at := 100 + 10*uint64(k)
		isReal(t, "the journal", x, at-9, k)
		isReal(t, "the journal", x, at, k)
		isReal(t, "the journal", x, at+1, k+1)
	}
	isReal(t, "the journal", x, 0, 0)
	isReal(t, "the journal", x, math.MaxUint64, 9)
}

// P16.2: Real is the first one whose Real is t or above, whatever stands
// between: the times of others don't rise.
func TestRealOfTimesThatFall(t *testing.T) {
	for _, c := range []struct {
		reals []uint64
		want  map[uint64]int
	}{
		{[]uint64{9, 8, 7, 6, 5, 4, 3}, map[uint64]int{0: 0, 3: 0, 9: 0, 10: 7}},
		{[]uint64{1, 9, 2, 8, 3, 7, 10, 4}, map[uint64]int{1: 0, 2: 1, 3: 1, 8: 1, 9: 1, 10: 6, 11: 8}},
		{[]uint64{5, 1, 1, 1, 1, 1, 1, 1}, map[uint64]int{1: 0, 2: 0, 5: 0, 6: 8}},
		{[]uint64{1, 1, 1, 1, 1, 1, 1, 5}, map[uint64]int{1: 0, 2: 7, 5: 7, 6: 8}},
		{[]uint64{4, 4, 4, 4}, map[uint64]int{0: 0, 3: 0, 4: 0, 5: 4}},
		{[]uint64{0, 0, math.MaxUint64, 0, 1}, map[uint64]int{0: 0, 1: 2, 1 << 63: 2, math.MaxUint64: 2}},
	} {
		var times []stamp
		for _, real := range c.reals {
			times = append(times, stamp{real: real})
		}
		what := fmt.Sprint("the times ", c.reals)
		x := isIndex(t, what, opened(t, written(t, 0, times...)))
		for at, k := range c.want {
			isReal(t, what, x, at, k)
		}
	}
}

// P16.2: Mono is the first one of that boot, whatever stands between: others'
// boots, and times that fall.
func TestMono(t *testing.T) {
	x := isIndex(t, "the journal", opened(t, written(t, 0,
		stamp{mono: 5, boot: 1}, stamp{mono: 9, boot: 2}, stamp{mono: 3, boot: 1}, stamp{mono: 7, boot: 1},
		stamp{mono: 1, boot: 2}, stamp{mono: 0, boot: 3}, stamp{mono: 12, boot: 2}, stamp{mono: 7, boot: 1})))
	for _, c := range []struct {
		boot byte
		at   uint64
		k    int
	}{
		{1, 0, 0}, {1, 3, 0}, {1, 5, 0}, {1, 6, 3}, {1, 7, 3}, {1, 8, -1}, {1, math.MaxUint64, -1},
		{2, 0, 1}, {2, 9, 1}, {2, 10, 6}, {2, 12, 6}, {2, 13, -1},
		{3, 0, 5}, {3, 1, -1},
		{0, 0, -1}, {4, 0, -1}, {4, 5, -1},
	} {
		isMono(t, "the journal", x, api.ID{c.boot}, c.at, c.k)
	}
}

// P16.2: a boot is the one that has each byte the same.
func TestEachByteOfABoot(t *testing.T) {
	b := written(t, 0, stamp{mono: 4}, stamp{mono: 6})
	second := entries(t, b)[1]
	for i := range 16 {
		what := fmt.Sprint("a boot with byte ", i)
		boot := api.ID{}
		boot[i] = 1 << (i % 8)
		c := append([]byte(nil), b...)
		copy(c[second+entryBoot:], boot[:])
		x := isIndex(t, what, opened(t, c))
		isMono(t, what, x, boot, 0, 1)
		isMono(t, what, x, boot, 6, 1)
		isMono(t, what, x, boot, 7, -1)
		isMono(t, what, x, api.ID{}, 0, 0)
		isMono(t, what, x, api.ID{}, 5, -1)
	}
}

// P16.2: the numbers of the boots and times go to the last one.
func TestGreatTimes(t *testing.T) {
	x := isIndex(t, "great times", opened(t, written(t, 0,
		stamp{1 << 63, math.MaxUint64 - 1, 1}, stamp{math.MaxUint64, math.MaxUint64, 1}, stamp{math.MaxUint64, 0, 255})))
	isReal(t, "great times", x, 1<<63, 0)
	isReal(t, "great times", x, 1<<63+1, 1)
	isReal(t, "great times", x, math.MaxUint64, 1)
	isMono(t, "great times", x, api.ID{1}, math.MaxUint64, 1)
	isMono(t, "great times", x, api.ID{255}, 0, 2)
	isMono(t, "great times", x, api.ID{255}, 1, -1)
}

// P16.2: the times of entries that are not right are not found.
func TestTimesOfWrongEntries(t *testing.T) {
	b := written(t, 0, stamp{1, 1, 1}, stamp{9, 9, 2}, stamp{5, 5, 1}, stamp{9, 9, 1})
	l := entries(t, b)
	for what, c := range map[string][]byte{
		"another Xor":                 put(t, b, l[1]+entryXor, 1),
		"the number of the one ahead": put(t, b, l[1]+entrySeq, 1),
	} {
		x := isIndex(t, what, opened(t, c))
		isReal(t, what, x, 2, 1)
		isReal(t, what, x, 9, 2)
		isReal(t, what, x, 10, 3)
		isMono(t, what, x, api.ID{2}, 0, -1)
		isMono(t, what, x, api.ID{1}, 6, 2)
	}
}
