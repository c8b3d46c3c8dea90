package chain

import (
	"math"
	"testing"

	"diurnal/api"
	"diurnal/obj"
)

// P11.2: of right journals: each name's data, the last laid first.
func TestDatas(t *testing.T) {
	for _, n := range []int{1, 2, 3, 10, 60} {
		for _, slots := range []int{1, 2, 3, 64} {
			for _, keyed := range []bool{false, true} {
				j, is := bound(keyed, slots, 1+slots/2, payloads(n)...)
				v := j.view(t)
				for name, l := range is.datas {
					isDatas(t, v, name, l...)
				}
				isNoDatas(t, v, "NONE", api.ErrNone)
				isNoDatas(t, v, "", api.ErrNone)
			}
		}
	}
}

// one answers a journal of a field with three data: their places fall from the
// last one to the first.
func one() (j *journal, f *obj.Field, at [3]uint64, d [3]*obj.Data) {
	j = begun(false, 1, 1)
	place, f := j.field("A")
	j.fields[0].Head = place
	for i, p := range []string{"A=1", "A=2", "A=3"} {
		at[i], d[i] = j.data(p)
	}
	f.Data, d[2].NextField, d[1].NextField = at[2], at[1], at[0]
	return j, f, at, d
}

// P11.2: it ends where nothing comes: at 0, at the end, and beyond. A field's
// data may be nothing, too.
func TestDatasEnd(t *testing.T) {
	j, f, at, d := one()
	isDatas(t, j.view(t), "A", at[2], at[1], at[0])
	for _, nothing := range []uint64{0, j.end, j.end + 1, j.end + 8, 1 << 32, 1<<63 - 1, 1 << 63, math.MaxUint64 - 7, math.MaxUint64} {
		f.Data, d[0].NextField = at[2], nothing
		isDatas(t, j.view(t), "A", at[2], at[1], at[0])
		f.Data = at[0]
		isDatas(t, j.view(t), "A", at[0])
		f.Data = nothing
		isDatas(t, j.view(t), "A")
	}
}

// P11.2: ErrLoop where a place is not below the one ahead, whatever stands
// there; below it, arena's code.
func TestDatasOfWhatDoesNotFall(t *testing.T) {
	j, _, at, d := one()
	for next, code := range map[uint64]int{
		at[1]: api.ErrLoop, at[1] + 1: api.ErrLoop, at[1] + 8: api.ErrLoop, at[2]: api.ErrLoop, j.end - 1: api.ErrLoop,
		j.end - 8: api.ErrLoop, at[1] - 1: api.ErrAlign, at[0] + 1: api.ErrAlign, 272: api.ErrType, 273: api.ErrAlign,
		271: api.ErrRange, 264: api.ErrRange, 8: api.ErrRange, 1: api.ErrRange, j.fields[0].Head: api.ErrType,
	} {
		d[1].NextField = next
		isNoDatas(t, j.view(t), "A", code)
	}
	d[1].NextField = at[0]
	isDatas(t, j.view(t), "A", at[2], at[1], at[0])
}

// P11.2: of the first place nothing is ahead: its code is arena's.
func TestDatasOfAWrongFirst(t *testing.T) {
	j, f, at, _ := one()
	for first, code := range map[uint64]int{
		1: api.ErrRange, 8: api.ErrRange, 271: api.ErrRange, 272: api.ErrType, at[0] + 4: api.ErrAlign,
		j.fields[0].Head: api.ErrType, j.end - 1: api.ErrAlign, j.end - 8: api.ErrRange,
	} {
		f.Data = first
		isNoDatas(t, j.view(t), "A", code)
		isField(t, j.view(t), "A", j.fields[0].Head)
	}
	f.Data = at[1]
	isDatas(t, j.view(t), "A", at[1], at[0])
}

// P11.2: from the front: what is met first is told, and nothing beside it; a
// hash, a text, NextHash and the slots of the data are not looked at.
func TestDatasFromTheFront(t *testing.T) {
	j, _, at, d := one()
	j.slots[0].Head = 8
	for _, x := range d {
		x.Hash, x.NextHash, x.Entry, x.Array = 1, 2, 3, 4
	}
	copy(d[1].Payload, "B=7")
	copy(d[0].Payload, "???")
	isDatas(t, j.view(t), "A", at[2], at[1], at[0])
	d[0].NextField = at[0]
	isNoDatas(t, j.view(t), "A", api.ErrLoop)
	d[1].NextField = 272
	isNoDatas(t, j.view(t), "A", api.ErrType)
	d[2].NextField = at[2]
	isNoDatas(t, j.view(t), "A", api.ErrLoop)
	d[2].NextField, d[0].NextField = at[0], 0
	isDatas(t, j.view(t), "A", at[2], at[0])
}

// P11.2: arena's Data's code of each kind of a wrong object.
func TestDatasOfWrongObjects(t *testing.T) {
	for _, c := range []struct {
		at   uint64
		b    byte
		code int
	}{{0, 0, api.ErrType}, {0, api.Field, api.ErrType}, {1, 1, api.ErrFlags}, {8, 15, api.ErrSize},
		{8, 64, api.ErrSize}, {14, 1, api.ErrRange}} {
		j, _, at, _ := one()
		for _, place := range at {
			b := j.bytes()
			b[place+c.at] = c.b
			isNoDatas(t, opened(t, b), "A", c.code)
		}
	}
}

// P0.4: each list is new memory, its room behind its end, too.
func TestDatasIsNewMemory(t *testing.T) {
	j, _, at, _ := one()
	v := j.view(t)
	first, _ := Datas(v, "A")
	second, _ := Datas(v, "A")
	first[0], first = 7, append(first, 8, 9)
	_ = append(first[:1], 10, 11, 12)
	if len(second) != 3 || second[0] != at[2] || second[2] != at[0] {
		t.Errorf("Datas: %v, want the places of %v turned round", second, at)
	}
	isDatas(t, v, "A", at[2], at[1], at[0])
}
