package link

import (
	"math"
	"slices"
	"testing"

	"diurnal/api"
	"diurnal/entry"
	"diurnal/obj"
)

// counts are numbers of entries about the ends of the arrays of a chain.
var counts = []int{0, 1, 2, 3, 4, 5, 11, 12, 13, 28, 29, 60, 61, 124, 125, 252, 253, 508, 509, 764, 765, 766, 1500}

// P12.1: the example: of a new journal there are none; nothing is asked for
// then, wherever its Array is.
func TestEntriesOfANewJournal(t *testing.T) {
	j := begun()
	isEntries(t, j.view(t), api.Fine)
	at, _ := j.data()
	for _, array := range append(j.nothings(), 1, 8, 271, 272, 273, at, j.end-1) {
		j.h.Array = array
		isEntries(t, j.view(t), api.Fine)
	}
}

// P12.1: all entries of right journals, in their order.
func TestEntries(t *testing.T) {
	for _, n := range counts {
		j, entries, _ := bound(n)
		isEntries(t, j.view(t), api.Fine, entries...)
	}
}

// P12.1: the first so many as Head's Entries says; of more than there are,
// ErrRange at the first item that is nothing, and ErrCount where no item of the
// last array is; those ahead are told.
func TestEntriesAreSoMany(t *testing.T) {
	for _, n := range []int{1, 3, 4, 5, 12, 13, 30} {
		j, entries, _ := bound(n)
		for some := range entries {
			j.h.Entries = uint64(some)
			isEntries(t, j.view(t), api.Fine, entries[:some]...)
		}
		code := api.ErrRange
		if n == 4 || n == 12 {
			code = api.ErrCount
		}
		for _, more := range []uint64{uint64(n) + 1, uint64(n) + 2, 1000, 1 << 32, 1 << 63, math.MaxUint64} {
			j.h.Entries = more
			isEntries(t, j.view(t), code, entries...)
		}
	}
}

// P12.1: ErrCount where the next array is nothing: 0, at the end, or beyond; of
// the first one, and of one by Next.
func TestEntriesOfNoArray(t *testing.T) {
	j := begun()
	_, a := j.array(600, 601)
	b, c := j.array(602)
	place := j.end
	j.lay(make([]byte, 400))
	j.h.Entries = 4
	for _, nothing := range j.nothings() {
		j.h.Array = nothing
		isEntries(t, j.view(t), api.ErrCount)
		j.h.Array, a.Next, c.Next = first, nothing, b
		isEntries(t, j.view(t), api.ErrCount, 600, 601)
		a.Next, c.Next = b, nothing
		isEntries(t, j.view(t), api.ErrCount, 600, 601, 602)
	}
	// The last place ahead of the end is one: what stands there is read.
	for back, code := range map[uint64]int{1: api.ErrAlign, 7: api.ErrAlign, 8: api.ErrRange, 16: api.ErrType, j.end - place: api.ErrType} {
		j.h.Array = j.end - back
		isEntries(t, j.view(t), code)
		j.h.Array, a.Next = first, j.end-back
		isEntries(t, j.view(t), code, 600, 601)
		a.Next = b
	}
}

// P12.1: ErrLoop where an array's place is not above the one ahead, whatever
// stands there; above it, arena's code.
func TestEntriesOfArraysThatDoNotRise(t *testing.T) {
	j := begun()
	one, a := j.array(900, 901, 902, 903)
	two, b := j.array(904)
	three, c := j.array(905)
	tag := j.lay(obj.Put(api.Tag, nil))
	j.lay(make([]byte, 1000))
	j.h.Entries, j.h.Array, a.Next, b.Next = 9, one, two, three
	for next, code := range map[uint64]int{
		one: api.ErrLoop, two: api.ErrLoop, three: api.ErrLoop, three - 1: api.ErrLoop, three - 8: api.ErrLoop,
		1: api.ErrLoop, 8: api.ErrLoop, 271: api.ErrLoop, 272: api.ErrLoop, 288: api.ErrLoop,
		three + 1: api.ErrAlign, three + 7: api.ErrAlign, three + 16: api.ErrType, tag: api.ErrType, 0: api.ErrCount,
	} {
		c.Next = next
		isEntries(t, j.view(t), code, 900, 901, 902, 903, 904, 905)
	}
	// An array that was left out is above none that was read.
	j.h.Array, b.Next, c.Next = two, three, two
	isEntries(t, j.view(t), api.ErrLoop, 904, 905)
	a.Next, b.Next, j.h.Array = three, 0, one
	isEntries(t, j.view(t), api.ErrLoop, 900, 901, 902, 903, 905)
	c.Next = 0
	isEntries(t, j.view(t), api.ErrCount, 900, 901, 902, 903, 905)
}

// P12.1: of the first array nothing is ahead: its code is arena's.
func TestEntriesOfAWrongFirstArray(t *testing.T) {
	j := begun()
	at, _ := j.data()
	array, _ := j.array(at)
	row := j.entry(1)
	j.h.Entries = 1
	for place, code := range map[uint64]int{
		1: api.ErrRange, 8: api.ErrRange, 264: api.ErrRange, 271: api.ErrRange, 272: api.ErrType, 273: api.ErrAlign,
		304: api.ErrType, at: api.ErrType, array + 4: api.ErrAlign, row: api.ErrType, j.end - 1: api.ErrAlign, j.end - 8: api.ErrRange,
	} {
		j.h.Array = place
		isEntries(t, j.view(t), code)
	}
	j.h.Array = array
	isEntries(t, j.view(t), api.Fine, at)
}

// wrongArrays are bytes that spoil an array of two items, by their place in it,
// and the code of what is there then.
var wrongArrays = []struct {
	at   uint64
	b    byte
	code int
}{
	{0, 0, api.ErrType}, {0, api.Data, api.ErrType}, {0, api.Entry, api.ErrType}, {0, api.DataTable, api.ErrType}, {0, 8, api.ErrType},
	{1, 1, api.ErrFlags}, {8, 15, api.ErrSize}, {8, 16, api.ErrSize}, {8, 24, api.ErrSize}, {8, 33, api.ErrSize},
	{8, 39, api.ErrSize}, {8, 41, api.ErrRange}, {8, 48, api.ErrRange}, {15, 255, api.ErrRange},
}

// P12.1: arena's Array's code of each kind of a wrong array, ahead of its
// items' own; those ahead of it are told.
func TestEntriesOfWrongArrays(t *testing.T) {
	for _, c := range wrongArrays {
		j := begun()
		at, a := j.array(350, 351)
		j.h.Entries, j.h.Array = 9, at
		wrong := []uint64{352, 0}
		a.Next, _ = j.array(wrong...)
		b := j.bytes()
		b[a.Next+c.at] = c.b
		isEntries(t, opened(t, b), c.code, 350, 351)
		j.h.Array = a.Next
		b = j.bytes()
		b[a.Next+c.at] = c.b
		isEntries(t, opened(t, b), c.code)
	}
}

// P12.1: an array is read whole: where not all of its items are there, none is
// told, as few as are asked for.
func TestEntriesReadsAnArrayWhole(t *testing.T) {
	j := begun()
	at, _ := j.array(272, 273, 274, 275)
	j.h.Entries, j.h.Array = 1, at
	b := j.bytes()
	for size, code := range map[byte]int{56: api.Fine, 55: api.ErrSize, 57: api.ErrRange, 64: api.ErrRange, 32: api.Fine, 24: api.ErrSize} {
		b[at+8] = size
		if code == api.Fine {
			isEntries(t, opened(t, b), code, 272)
		} else {
			isEntries(t, opened(t, b), code)
		}
	}
}

// P12.1: ErrRange where an item is nothing: 0, at the end, or beyond; ahead of
// ErrOrder; those ahead are told.
func TestEntriesOfItemsThatAreNothing(t *testing.T) {
	j := begun()
	at, a := j.array(1, 2, 3, 4)
	last, b := j.array(5, 6)
	j.h.Entries, j.h.Array, a.Next = 6, at, last
	all := []uint64{1, 2, 3, 4, 5, 6}
	for i := range all {
		for _, nothing := range j.nothings() {
			copy(a.Items, all)
			copy(b.Items, all[4:])
			if i < 4 {
				a.Items[i] = nothing
			} else {
				b.Items[i-4] = nothing
			}
			isEntries(t, j.view(t), api.ErrRange, all[:i]...)
			// With as many as are ahead it is not met.
			j.h.Entries = uint64(i)
			isEntries(t, j.view(t), api.Fine, all[:i]...)
			j.h.Entries = 6
		}
	}
}

// P12.1: an item is a place, whatever stands there: in the head, between
// objects, at the last place ahead of the end.
func TestEntriesDoNotLookAtThePlaces(t *testing.T) {
	j := begun()
	at, a := j.array(1, 8, 271, 272, 273, 337, 0)
	j.h.Entries, j.h.Array = 7, at
	a.Items[6] = j.end - 1
	isEntries(t, j.view(t), api.Fine, 1, 8, 271, 272, 273, 337, j.end-1)
}

// P12.1: ErrOrder where an item is not above the one ahead, in the same array or
// in the one ahead; those ahead are told.
func TestEntriesOfItemsThatDoNotRise(t *testing.T) {
	all := []uint64{300, 310, 320, 330, 340, 350, 360}
	for i := 1; i < len(all); i++ {
		for _, item := range []uint64{1, 8, 299, 300, all[i-1] - 1, all[i-1]} {
			j := begun()
			l := slices.Clone(all)
			l[i] = item
			at, a := j.array(l[:3]...)
			mid, b := j.array(l[3])
			last, _ := j.array(l[4:]...)
			j.h.Entries, j.h.Array, a.Next, b.Next = 7, at, mid, last
			isEntries(t, j.view(t), api.ErrOrder, all[:i]...)
			j.h.Entries = uint64(i)
			isEntries(t, j.view(t), api.Fine, all[:i]...)
			j.h.Entries, b.Next = uint64(i)+1, mid
			if i < 4 {
				isEntries(t, j.view(t), api.ErrOrder, all[:i]...)
			} else {
				isEntries(t, j.view(t), api.ErrLoop, all[:4]...)
			}
		}
	}
}

// P12.1: from the front: an item that is wrong is met ahead of the array behind
// it, an array ahead of its own items; what is behind the last one that is asked
// for is not looked at.
func TestEntriesFromTheFront(t *testing.T) {
	j := begun()
	at, a := j.array(300, 301)
	next, b := j.array(302, 303)
	j.h.Entries, j.h.Array, a.Next, b.Next = 4, at, next, 8
	isEntries(t, j.view(t), api.Fine, 300, 301, 302, 303)
	j.h.Entries = 5
	isEntries(t, j.view(t), api.ErrLoop, 300, 301, 302, 303)
	b.Items[1] = 302
	isEntries(t, j.view(t), api.ErrOrder, 300, 301, 302)
	b.Items[0] = 0
	isEntries(t, j.view(t), api.ErrRange, 300, 301)
	a.Next = at
	isEntries(t, j.view(t), api.ErrLoop, 300, 301)
	a.Next = 272
	isEntries(t, j.view(t), api.ErrLoop, 300, 301)
	a.Next = j.end - 8
	isEntries(t, j.view(t), api.ErrRange, 300, 301)
	a.Items[1] = 300
	isEntries(t, j.view(t), api.ErrOrder, 300)
	a.Items[0] = j.end
	isEntries(t, j.view(t), api.ErrRange)
	j.h.Array = j.end - 4
	isEntries(t, j.view(t), api.ErrAlign)
	j.h.Array = j.end
	isEntries(t, j.view(t), api.ErrCount)
	j.h.Entries = 0
	isEntries(t, j.view(t), api.Fine)
}

// P12.1: nothing else of the head is asked, and no array need have as many items
// as a writer's.
func TestEntriesAskNothingElse(t *testing.T) {
	for _, n := range []uint64{0, 1, 12, math.MaxUint32} {
		j := begun()
		j.h.TailArray, j.h.TailItems, j.h.TailEntry, j.h.Arrays, j.h.Objects = uint32(n), uint32(n), n, n, n
		j.h.TailObject, j.h.HeadSeq, j.h.TailSeq = n, n, n
		at, a := j.array(300, 301, 302, 303, 304, 305, 306)
		a.Next, _ = j.array(307)
		j.h.Entries, j.h.Array = 8, at
		isEntries(t, j.view(t), api.Fine, 300, 301, 302, 303, 304, 305, 306, 307)
	}
}

// P12.1: up to the end, not beyond: an array that stands behind it is not there.
func TestEntriesBehindTheEnd(t *testing.T) {
	j, entries, _ := bound(5)
	b := j.bytes()
	isEntries(t, opened(t, append(b, make([]byte, 64)...)), api.Fine, entries...)
	k := begun()
	at, _ := k.array(300)
	k.h.Entries, k.h.Array = 1, at
	b = append(k.bytes(), entry.PutArray(entry.Array{Items: []uint64{300}})...)
	isEntries(t, opened(t, b), api.Fine, 300)
	k.h.Array = k.end
	b = append(k.bytes(), entry.PutArray(entry.Array{Items: []uint64{300}})...)
	isEntries(t, opened(t, b), api.ErrCount)
}

// P0.4: each list is new memory, its room behind its end, too; also beside a
// code.
func TestEntriesIsNewMemory(t *testing.T) {
	j, entries, _ := bound(6)
	for _, n := range []uint64{5, 6, 7} {
		j.h.Entries = n
		v := j.view(t)
		one, code := Entries(v)
		two, _ := Entries(v)
		want := entries[:min(n, 6)]
		one[0], one = 7, append(one, 8, 9)
		_ = append(one[:2], 10, 11, 12)
		if !slices.Equal(two, want) {
			t.Errorf("Entries: %v, want %v", two, want)
		}
		isEntries(t, v, code, want...)
	}
}
