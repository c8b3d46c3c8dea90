package chain

import (
	"math"
	"testing"

	"diurnal/api"
	"diurnal/entry"
	"diurnal/obj"
)

// payloads answers n of them, of several names.
func payloads(n int) []string {
	names := []string{"A", "B", "CDE", "F_9", "G"}
	var l []string
	for i := range n {
		l = append(l, names[i*i%len(names)]+"="+string(rune('a'+i%26))+string(rune('0'+i/26)))
	}
	return l
}

// P11.1: Bucket of each slot of right journals: the slot's chain, and ErrRange
// of each slot that there is not.
func TestBucket(t *testing.T) {
	for _, n := range []int{0, 1, 2, 3, 10, 60} {
		for _, slots := range []int{1, 2, 3, 8, 64} {
			for _, keyed := range []bool{false, true} {
				j, is := bound(keyed, slots, 1+slots/2, payloads(n)...)
				v := j.view(t)
				for s := range slots {
					isBucket(t, v, api.DataTable, s, is.slots[s]...)
				}
				for s := range 1 + slots/2 {
					isBucket(t, v, api.FieldTable, s, is.fields[s]...)
				}
				for _, s := range []int{-1, -slots, math.MinInt, slots, slots + 1, math.MaxInt} {
					isNoBucket(t, v, api.DataTable, s, api.ErrRange)
				}
				for _, s := range []int{-1, math.MinInt, 1 + slots/2, math.MaxInt} {
					isNoBucket(t, v, api.FieldTable, s, api.ErrRange)
				}
			}
		}
	}
}

// P11.1: arena's Table's code comes ahead of ErrRange of the slot.
func TestBucketOfNoTable(t *testing.T) {
	j, is := bound(false, 2, 2, "A=1")
	v := j.view(t)
	for _, kind := range []int{math.MinInt, -1, 0, api.Data, api.Field, api.Entry, api.Array, api.Tag, 8, math.MaxInt} {
		for _, slot := range []int{-1, 0, 1, 2} {
			isNoBucket(t, v, kind, slot, api.ErrArg)
		}
	}
	for _, c := range []struct {
		spoil func(b []byte)
		code  int
	}{
		{func(b []byte) { b[272] = api.Tag }, api.ErrType},
		{func(b []byte) { b[272] = 0 }, api.ErrType},
		{func(b []byte) { b[273] = 1 }, api.ErrFlags},
		{func(b []byte) { b[280] = 15 }, api.ErrSize},
		{func(b []byte) { b[280] = 40 }, api.ErrSize},
		{func(b []byte) { b[280] = 32 }, api.ErrCount},
		{func(b []byte) { b[287] = 1 }, api.ErrRange},
	} {
		b := j.bytes()
		c.spoil(b)
		v := opened(t, b)
		for _, slot := range []int{-1, 0, 1, 2} {
			isNoBucket(t, v, api.DataTable, slot, c.code)
		}
		isNoBucket(t, v, api.FieldTable, 2, api.ErrRange)
		isNoData(t, v, "A=1", c.code)
		isField(t, v, "A", is.names["A"])
		isDatas(t, v, "A", is.payloads["A=1"])
	}
}

// P11.1: the chain ends where nothing comes: at 0, at the end, and beyond,
// whether or not a place could be there.
func TestBucketEnds(t *testing.T) {
	for _, beyond := range []uint64{0, 8, 1, 16, 1 << 32, 1<<63 - 1, 1 << 63, math.MaxUint64 - 7, math.MaxUint64} {
		j := begun(false, 2, 2)
		at, d := j.data("A=1")
		place, f := j.field("A")
		next := beyond
		if beyond > 0 && beyond < 1<<32 {
			next += j.end - 8 // at the end, and at places just behind it
			if beyond == 1 {
				next += 8
			}
		}
		j.slots[0].Head, j.slots[1].Head = at, next
		j.fields[0].Head, j.fields[1].Head = next, place
		d.NextHash, f.NextHash = next, next
		v := j.view(t)
		isBucket(t, v, api.DataTable, 0, at)
		isBucket(t, v, api.DataTable, 1)
		isBucket(t, v, api.FieldTable, 0)
		isBucket(t, v, api.FieldTable, 1, place)
	}
}

// P11.1: the last place ahead of the end is one: what stands there is read.
func TestBucketAtTheLastPlace(t *testing.T) {
	j := begun(false, 1, 1)
	at, d := j.data("A=1")
	place, f := j.field("A")
	for back, code := range map[uint64]int{1: api.ErrAlign, 7: api.ErrAlign, 8: api.ErrRange} {
		j.slots[0].Head, j.fields[0].Head = at, place
		d.NextHash, f.NextHash = j.end-back, j.end-back
		v := j.view(t)
		isNoBucket(t, v, api.DataTable, 0, code)
		isNoBucket(t, v, api.FieldTable, 0, code)
		j.slots[0].Head, j.fields[0].Head = j.end-back, j.end-back
		v = j.view(t)
		isNoBucket(t, v, api.DataTable, 0, code)
		isNoBucket(t, v, api.FieldTable, 0, code)
	}
}

// P11.1: ErrLoop where a place is not above the one ahead, whatever stands
// there; above it, arena's code.
func TestBucketOfWhatDoesNotRise(t *testing.T) {
	for _, c := range []struct {
		next func(own, other uint64) uint64 // other is that of the other kind's object
		data int
		slot int
	}{
		{func(own, _ uint64) uint64 { return own }, api.ErrLoop, api.ErrLoop},
		{func(own, _ uint64) uint64 { return own - 1 }, api.ErrLoop, api.ErrLoop},
		{func(own, _ uint64) uint64 { return own - 8 }, api.ErrLoop, api.ErrLoop},
		{func(uint64, uint64) uint64 { return 1 }, api.ErrLoop, api.ErrLoop},
		{func(uint64, uint64) uint64 { return 8 }, api.ErrLoop, api.ErrLoop},
		{func(uint64, uint64) uint64 { return 271 }, api.ErrLoop, api.ErrLoop},
		{func(uint64, uint64) uint64 { return 272 }, api.ErrLoop, api.ErrLoop},
		{func(own, _ uint64) uint64 { return own + 1 }, api.ErrAlign, api.ErrAlign},
		{func(own, _ uint64) uint64 { return own + 7 }, api.ErrAlign, api.ErrAlign},
		{func(_, other uint64) uint64 { return other }, api.ErrType, api.ErrLoop},
	} {
		j := begun(false, 1, 1)
		at, d := j.data("A=1")
		place, f := j.field("A")
		j.slots[0].Head, j.fields[0].Head = at, place
		d.NextHash, f.NextHash = c.next(at, place), c.next(place, at)
		v := j.view(t)
		isNoBucket(t, v, api.DataTable, 0, c.data)
		isNoBucket(t, v, api.FieldTable, 0, c.slot)
	}
}

// P11.1: of the first place nothing is ahead: its code is arena's, below the
// head, too.
func TestBucketOfAWrongFirst(t *testing.T) {
	j := begun(false, 1, 1)
	at, _ := j.data("A=1")
	place, _ := j.field("A")
	for head, codes := range map[uint64][2]int{
		1: {api.ErrRange, api.ErrRange}, 8: {api.ErrRange, api.ErrRange}, 264: {api.ErrRange, api.ErrRange},
		271: {api.ErrRange, api.ErrRange}, 272: {api.ErrType, api.ErrType}, 273: {api.ErrAlign, api.ErrAlign},
		288: {api.ErrType, api.ErrType}, at: {api.Fine, api.ErrType}, place: {api.ErrType, api.Fine},
	} {
		j.slots[0].Head, j.fields[0].Head = head, head
		v := j.view(t)
		for i, kind := range []int{api.DataTable, api.FieldTable} {
			if codes[i] == api.Fine {
				isBucket(t, v, kind, 0, head)
			} else {
				isNoBucket(t, v, kind, 0, codes[i])
			}
		}
	}
}

// P11.1: from the front: what is met first is told, and nothing beside it; what
// no chain has is not looked at, nor a slot's Tail, nor a hash, nor a text.
func TestBucketFromTheFront(t *testing.T) {
	j := begun(false, 2, 1)
	a, first := j.data("A=1")
	b, second := j.data("no text")
	c, third := j.data("C=3")
	tag := j.lay(obj.Put(api.Tag, nil))
	j.slots = []entry.Slot{{Head: a, Tail: 1}, {Head: tag, Tail: tag}}
	first.NextHash, second.NextHash, third.NextHash = b, c, 0
	first.Hash, second.Hash, third.NextField, third.Entry, third.Array = 1, 2, 3, 4, 5
	isBucket(t, j.view(t), api.DataTable, 0, a, b, c)
	isNoBucket(t, j.view(t), api.DataTable, 1, api.ErrType)
	third.NextHash = a
	isNoBucket(t, j.view(t), api.DataTable, 0, api.ErrLoop)
	second.NextHash = tag
	isNoBucket(t, j.view(t), api.DataTable, 0, api.ErrType)
	first.NextHash = a
	isNoBucket(t, j.view(t), api.DataTable, 0, api.ErrLoop)
	first.NextHash = c
	isNoBucket(t, j.view(t), api.DataTable, 0, api.ErrLoop)
	third.NextHash = 0
	isBucket(t, j.view(t), api.DataTable, 0, a, c)
}

// P11.1: arena's code of each kind of a wrong object.
func TestBucketOfWrongObjects(t *testing.T) {
	for _, c := range []struct {
		spoil func(b []byte)
		code  int
	}{
		{func(b []byte) { b[0] = 0 }, api.ErrType},
		{func(b []byte) { b[0] = api.Entry }, api.ErrType},
		{func(b []byte) { b[1] = 4 }, api.ErrFlags},
		{func(b []byte) { b[8] = 8 }, api.ErrSize},
		{func(b []byte) { b[8] = 16 }, api.ErrSize},
		{func(b []byte) { b[14] = 1 }, api.ErrRange},
	} {
		j := begun(false, 1, 1)
		at, _ := j.data("A=1")
		b, _ := j.data("B=1")
		place, _ := j.field("A")
		next, _ := j.field("B")
		j.slots[0].Head, j.fields[0].Head = at, place
		j.laid[0].(*obj.Data).NextHash, j.laid[2].(*obj.Field).NextHash = b, next
		bytes := j.bytes()
		c.spoil(bytes[b:])
		c.spoil(bytes[next:])
		v := opened(t, bytes)
		isNoBucket(t, v, api.DataTable, 0, c.code)
		isNoBucket(t, v, api.FieldTable, 0, c.code)
	}
}

// P0.4: each list is new memory, its room behind its end, too.
func TestBucketIsNewMemory(t *testing.T) {
	j, is := bound(false, 1, 1, payloads(5)...)
	v := j.view(t)
	one, _ := Bucket(v, api.DataTable, 0)
	two, _ := Bucket(v, api.DataTable, 0)
	one[0], one = 7, append(one, 8, 9)
	_ = append(one[:2], 10, 11, 12)
	if len(two) != 5 || two[0] != is.slots[0][0] || two[4] != is.slots[0][4] {
		t.Errorf("Bucket: %v, want %v", two, is.slots[0])
	}
	isBucket(t, v, api.DataTable, 0, is.slots[0]...)
}
