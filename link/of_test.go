package link

import (
	"math"
	"slices"
	"testing"

	"diurnal/api"
	"diurnal/entry"
	"diurnal/obj"
)

// P12.2: the entries of each of the data of right journals, in their order.
func TestOf(t *testing.T) {
	for _, n := range counts {
		j, entries, data := bound(n)
		v := j.view(t)
		isOf(t, v, data[0], api.Fine, entries...)
		isOf(t, v, data[1], api.Fine, thirds(entries)...)
		isOf(t, v, data[2], api.Fine)
	}
}

// P12.2: arena's Data's code, with nothing beside, at each place that has none.
func TestOfWhatIsNoData(t *testing.T) {
	j, entries, data := bound(3)
	v := j.view(t)
	all := []uint64{1 << 32, 1<<63 - 1, 1 << 63, math.MaxUint64 - 7, math.MaxUint64}
	for at := range j.end + 40 {
		all = append(all, at)
	}
	for _, at := range all {
		if slices.Contains(data[:], at) {
			continue
		}
		_, code := v.Data(at)
		if code == api.Fine {
			t.Fatalf("a Data at %d", at)
		}
		isOf(t, v, at, code)
	}
	isOf(t, v, 0, api.ErrRange)
	isOf(t, v, 8, api.ErrRange)
	isOf(t, v, j.end, api.ErrRange)
	isOf(t, v, data[0]+1, api.ErrAlign)
	isOf(t, v, entries[0], api.ErrType)
	isOf(t, v, j.h.Array, api.ErrType)
	isOf(t, v, 272, api.ErrType)
}

// P12.2: arena's Data's code of each kind of a wrong object.
func TestOfWrongData(t *testing.T) {
	for _, c := range []struct {
		at   uint64
		b    byte
		code int
	}{{0, 0, api.ErrType}, {0, api.Field, api.ErrType}, {1, 1, api.ErrFlags}, {8, 15, api.ErrSize}, {8, 64, api.ErrSize}, {14, 1, api.ErrRange}} {
		j, entries, data := bound(6)
		b := j.bytes()
		b[data[0]+c.at] = c.b
		isOf(t, opened(t, b), data[0], c.code)
		isOf(t, opened(t, b), data[1], api.Fine, thirds(entries)...)
	}
}

// one answers a journal with one Data, of six entries: its own, three in an
// array, two in a last one.
func one() (j *journal, at uint64, d *obj.Data, a, b *entry.Array) {
	j = begun()
	at, d = j.data()
	d.Entry, d.Count = 300, 6
	d.Array, a = j.array(301, 302, 303)
	a.Next, b = j.array(304, 305)
	return j, at, d, a, b
}

// P12.2: so many as it counts, of what comes: none of 0; what is behind the last
// one is not looked at.
func TestOfSoMany(t *testing.T) {
	j, at, d, a, b := one()
	all := []uint64{300, 301, 302, 303, 304, 305}
	for n := range all {
		d.Count = uint64(n)
		isOf(t, j.view(t), at, api.Fine, all[:n]...)
	}
	for _, more := range []uint64{6, 7, 1000, 1 << 32, 1 << 63, math.MaxUint64} {
		d.Count = more
		isOf(t, j.view(t), at, api.Fine, all...)
	}
	d.Count, b.Next = 6, 8
	isOf(t, j.view(t), at, api.Fine, all...)
	d.Count, b.Items[1] = 5, 1
	isOf(t, j.view(t), at, api.Fine, all[:5]...)
	d.Count, a.Next = 4, d.Array
	isOf(t, j.view(t), at, api.Fine, all[:4]...)
	d.Count, a.Items[2] = 3, 302
	isOf(t, j.view(t), at, api.Fine, all[:3]...)
	d.Count, d.Array = 1, 8
	isOf(t, j.view(t), at, api.Fine, 300)
	d.Count, d.Entry = 0, 1
	isOf(t, j.view(t), at, api.Fine)
	d.Count = 1
	isOf(t, j.view(t), at, api.Fine, 1)
	d.Count = 2
	isOf(t, j.view(t), at, api.ErrRange, 1)
}

// P12.2: till nothing comes: the Entry, an item, an array; then what is behind it
// is not looked at, and there is no code.
func TestOfUpToNothing(t *testing.T) {
	j, at, d, a, b := one()
	d.Count = 9
	array, last := d.Array, a.Next
	for _, nothing := range j.nothings() {
		b.Next = nothing
		isOf(t, j.view(t), at, api.Fine, 300, 301, 302, 303, 304, 305)
		b.Items[1], b.Next = nothing, 8
		isOf(t, j.view(t), at, api.Fine, 300, 301, 302, 303, 304)
		b.Items[0], b.Items[1] = nothing, 1
		isOf(t, j.view(t), at, api.Fine, 300, 301, 302, 303)
		a.Next = nothing
		isOf(t, j.view(t), at, api.Fine, 300, 301, 302, 303)
		// An item that is nothing ends all, not its own array alone.
		a.Items[1], a.Next, b.Items[0], b.Items[1] = nothing, last, 304, 305
		isOf(t, j.view(t), at, api.Fine, 300, 301)
		a.Items[0], a.Next = nothing, 8
		isOf(t, j.view(t), at, api.Fine, 300)
		a.Items[0], a.Items[1], a.Next = 301, 302, last
		d.Array = nothing
		isOf(t, j.view(t), at, api.Fine, 300)
		// Without an Entry the arrays are not asked, right or wrong.
		d.Entry = nothing
		isOf(t, j.view(t), at, api.Fine)
		d.Array = array
		isOf(t, j.view(t), at, api.Fine)
		d.Array = at
		isOf(t, j.view(t), at, api.Fine)
		d.Entry, d.Array = 300, array
	}
}

// P12.2: ErrLoop where an array's place is not above the one ahead, whatever
// stands there; above it, arena's code. Those ahead are told.
func TestOfArraysThatDoNotRise(t *testing.T) {
	j, at, d, a, b := one()
	two := a.Next
	tag := j.lay(obj.Put(api.Tag, nil))
	d.Count = 7
	for next, code := range map[uint64]int{
		d.Array: api.ErrLoop, two: api.ErrLoop, two - 1: api.ErrLoop, two - 8: api.ErrLoop, at: api.ErrLoop, 1: api.ErrLoop,
		8: api.ErrLoop, 272: api.ErrLoop, two + 1: api.ErrAlign, tag: api.ErrType, tag + 8: api.ErrRange, tag + 15: api.ErrAlign,
	} {
		b.Next = next
		isOf(t, j.view(t), at, code, 300, 301, 302, 303, 304, 305)
	}
	for next, code := range map[uint64]int{d.Array: api.ErrLoop, at: api.ErrLoop, 8: api.ErrLoop, two + 8: api.ErrType, two + 4: api.ErrAlign, tag: api.ErrType} {
		a.Next = next
		isOf(t, j.view(t), at, code, 300, 301, 302, 303)
	}
}

// P12.2: of the first array nothing is ahead: its code is arena's; it may stand
// below the Data.
func TestOfAWrongFirstArray(t *testing.T) {
	j, at, d, _, _ := one()
	for place, code := range map[uint64]int{
		1: api.ErrRange, 8: api.ErrRange, 271: api.ErrRange, 272: api.ErrType, 273: api.ErrAlign, 304: api.ErrType, at: api.ErrType,
		at + 1: api.ErrAlign, d.Array + 4: api.ErrAlign, j.end - 1: api.ErrAlign, j.end - 8: api.ErrRange,
	} {
		d.Array = place
		isOf(t, j.view(t), at, code, 300)
	}
	k := begun()
	below, _ := k.array(301, 302)
	at, d = k.data()
	d.Entry, d.Count, d.Array = 300, 3, below
	isOf(t, k.view(t), at, api.Fine, 300, 301, 302)
}

// P12.2: arena's Array's code of each kind of a wrong array, ahead of its items:
// it is read whole; those ahead are told. Such a code is not an end, though it
// may be that of a place that is nothing.
func TestOfWrongArrays(t *testing.T) {
	for _, c := range wrongArrays {
		j, at, _, a, _ := one()
		b := j.bytes()
		b[a.Next+c.at] = c.b
		isOf(t, opened(t, b), at, c.code, 300, 301, 302, 303)
	}
	j, at, d, _, _ := one()
	d.Count = 2
	for size, code := range map[byte]int{47: api.ErrSize, 49: api.ErrSize, 24: api.ErrSize, 255: api.ErrRange} {
		b := j.bytes()
		b[d.Array+8] = size
		isOf(t, opened(t, b), at, code, 300)
	}
}

// P12.2: ErrOrder where an item is not above the one ahead: the Entry, an item of
// the same array, the last one of the array ahead. Those ahead are told.
func TestOfItemsThatDoNotRise(t *testing.T) {
	all := []uint64{300, 301, 302, 303, 304, 305}
	for i := 1; i < len(all); i++ {
		for _, item := range []uint64{1, 8, 299, 300, all[i-1]} {
			j, at, d, a, b := one()
			if i < 4 {
				a.Items[i-1] = item
			} else {
				b.Items[i-4] = item
			}
			isOf(t, j.view(t), at, api.ErrOrder, all[:i]...)
			d.Count = uint64(i)
			isOf(t, j.view(t), at, api.Fine, all[:i]...)
			d.Count++
			isOf(t, j.view(t), at, api.ErrOrder, all[:i]...)
		}
	}
	j, at, d, _, _ := one()
	d.Entry = 304
	isOf(t, j.view(t), at, api.ErrOrder, 304)
	d.Entry = j.end - 1
	isOf(t, j.view(t), at, api.ErrOrder, j.end-1)
}

// P12.2: places are not looked at: in the head, between objects, at the last one
// ahead of the end.
func TestOfDoesNotLookAtThePlaces(t *testing.T) {
	j := begun()
	at, d := j.data()
	place, a := j.array(8, 271, 272, 273, 337, 0)
	d.Entry, d.Count, d.Array = 1, 7, place
	a.Items[5] = j.end - 1
	isOf(t, j.view(t), at, api.Fine, 1, 8, 271, 272, 273, 337, j.end-1)
}

// P12.2: nothing else of the Data is asked, nor what the head counts.
func TestOfAsksNothingElse(t *testing.T) {
	j, at, d, _, _ := one()
	d.Hash, d.NextHash, d.NextField, d.Payload = 1, 2, 3, []byte("not")
	for _, n := range []uint64{0, 1, math.MaxUint64} {
		j.h.Entries, j.h.Array, j.h.Datas, j.h.Arrays = n, n, n, n
		isOf(t, j.view(t), at, api.Fine, 300, 301, 302, 303, 304, 305)
	}
}

// P0.4: each list is new memory, its room behind its end, too; also beside a
// code.
func TestOfIsNewMemory(t *testing.T) {
	j, at, _, _, b := one()
	for _, last := range []uint64{305, 304} {
		b.Items[1] = last
		v := j.view(t)
		x, code := Of(v, at)
		y, _ := Of(v, at)
		want := slices.Clone(y)
		x[0], x = 7, append(x, 8, 9)
		_ = append(x[:2], 10, 11, 12)
		if !slices.Equal(y, want) {
			t.Errorf("Of: %v, want %v", y, want)
		}
		isOf(t, v, at, code, want...)
	}
}
