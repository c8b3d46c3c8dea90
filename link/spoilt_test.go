package link

import (
	"math"
	"slices"
	"testing"

	"diurnal/api"
	"diurnal/entry"
	"diurnal/obj"
)

// P12.1, P12.2: journals whose places, counts and arrays are spoilt in many
// ways, each call against the chapter's words.
func TestSpoiltJournals(t *testing.T) {
	seen := map[[2]int]int{}
	for seed := range uint64(6000) {
		b, data := spoilt(seed)
		v := opened(t, b)
		want, code := toldEntries(v)
		seen[[2]int{0, code}]++
		if got, is := Entries(v); is != code || !slices.Equal(got, want) {
			t.Fatalf("seed %d: Entries: %v, %d; want %v, %d", seed, got, is, want, code)
		}
		for _, at := range data {
			want, code := toldOf(v, at)
			seen[[2]int{1, code}]++
			if got, is := Of(v, at); is != code || !slices.Equal(got, want) {
				t.Fatalf("seed %d: Of(%d): %v, %d; want %v, %d", seed, at, got, is, want, code)
			}
		}
	}
	for call := range 2 {
		for _, code := range []int{api.Fine, api.ErrLoop, api.ErrOrder, api.ErrType, api.ErrAlign, api.ErrRange} {
			if seen[[2]int{call, code}] < 20 {
				t.Errorf("call %d told %d only %d times", call, code, seen[[2]int{call, code}])
			}
		}
	}
	if seen[[2]int{0, api.ErrCount}] < 20 || seen[[2]int{1, api.ErrCount}] > 0 {
		t.Errorf("ErrCount: %d times of Entries, %d of Of", seen[[2]int{0, api.ErrCount}], seen[[2]int{1, api.ErrCount}])
	}
}

// spoilt answers the bytes of a right journal in which some of the places and
// the counts were changed, by a rule that goes by the seed; and the places of
// its data.
func spoilt(seed uint64) ([]byte, [3]uint64) {
	state := seed*0x9e3779b97f4a7c15 + 1
	below := func(n int) int {
		state = state*6364136223846793005 + 1442695040888963407
		return int(state >> 33 % uint64(n))
	}
	j, all, data := bound(1 + below(16))
	all = append(all, j.h.Array, 0, 8, 272, j.end-8, j.end, j.end+8, data[0]+1, j.end-1, math.MaxUint64)
	var objects []any
	for _, x := range j.laid {
		switch x := x.(type) {
		case *obj.Data:
			objects = append(objects, x)
			all = append(all, x.Array)
		case *entry.Array:
			objects = append(objects, x)
			all = append(all, x.Next)
		}
	}
	for range 1 + below(5) {
		place := all[below(len(all))]
		switch o := objects[below(len(objects))].(type) {
		case *obj.Data:
			*[]*uint64{&o.Entry, &o.Array, &o.Count}[below(3)] = place
		case *entry.Array:
			*[]*uint64{&o.Next, &o.Items[0], &o.Items[below(len(o.Items))]}[below(3)] = place
		}
	}
	if below(4) == 0 {
		j.h.Entries = uint64(below(40))
	}
	if below(8) == 0 {
		j.h.Array = all[below(len(all))]
	}
	return j.bytes(), data
}

// P0.1: with any byte spoilt, each call ends, and says what the chapter does.
func TestEachByteSpoilt(t *testing.T) {
	j, _, data := bound(6)
	right := j.bytes()
	for i := first; i < len(right); i++ {
		for _, turn := range []byte{1, 0x08, 0x80, 0xff} {
			b := slices.Clone(right)
			b[i] ^= turn
			v := opened(t, b)
			l, code := toldEntries(v)
			isEntries(t, v, code, l...)
			for _, at := range data {
				l, code := toldOf(v, at)
				isOf(t, v, at, code, l...)
			}
		}
	}
}

// P0.1: of a long chain each array is read once, however many are asked for.
func TestLongChain(t *testing.T) {
	const n = 3000
	j := begun()
	at, d := j.data()
	var b []byte
	for i := range uint64(n) {
		// An array of one item has 32 bytes: the next one stands behind it.
		b = append(b, entry.PutArray(entry.Array{Next: j.end + 32*(i+1), Items: []uint64{i + 2}})...)
	}
	j.h.Array = j.lay(b)
	j.h.Entries, d.Entry, d.Count, d.Array = math.MaxUint64, 1, math.MaxUint64, j.h.Array
	v := j.view(t)
	if l, code := Entries(v); code != api.ErrCount || len(l) != n || l[0] != 2 || l[n-1] != n+1 {
		t.Errorf("Entries of %d arrays: %d, %d", n, len(l), code)
	}
	if l, code := Of(v, at); code != api.Fine || len(l) != n+1 || l[0] != 1 || l[n] != n+1 {
		t.Errorf("Of %d arrays: %d, %d", n, len(l), code)
	}
}
