package chain

import (
	"slices"
	"strings"
	"testing"

	"diurnal/api"
	"diurnal/arena"
	"diurnal/entry"
	"diurnal/hash"
	"diurnal/head"
	"diurnal/obj"
)

// journal is one that a test lays, object by object: each one can be changed up
// to the time when its bytes are asked for.
type journal struct {
	h             head.Head
	slots, fields []entry.Slot
	laid          []any
	end           uint64
}

// begun answers a journal of that file, keyed or not, with so many slots for
// the data and so many for the fields.
func begun(keyed bool, slots, fields int) *journal {
	j := &journal{h: head.Head{Size: 272, File: api.ID{1, 2, 3}}}
	if keyed {
		j.h.Incompat = api.Keyed
	}
	j.slots, j.fields = make([]entry.Slot, slots), make([]entry.Slot, fields)
	j.h.DataTable, j.h.DataSize = 288, uint64(16*slots)
	j.h.FieldTable, j.h.FieldSize = 304+j.h.DataSize, uint64(16*fields)
	j.end = j.h.FieldTable + j.h.FieldSize
	return j
}

// hash answers that of a payload in this journal.
func (j *journal) hash(payload string) uint64 {
	return hash.Of(j.h.Incompat != 0, j.h.File, []byte(payload))
}

// lay lays an object behind all others, and answers its place.
func (j *journal) lay(x any) uint64 {
	at := j.end
	j.laid = append(j.laid, x)
	j.end += uint64(len(laidBytes(x)))
	return at
}

// laidBytes answers an object's bytes.
func laidBytes(x any) []byte {
	switch x := x.(type) {
	case *obj.Data:
		return obj.PutData(*x)
	case *obj.Field:
		return obj.PutField(*x)
	}
	return x.([]byte)
}

// data lays an object Data of that payload, bound to nothing, with the hash
// that it must have.
func (j *journal) data(payload string) (uint64, *obj.Data) {
	d := &obj.Data{Hash: j.hash(payload), Payload: []byte(payload)}
	return j.lay(d), d
}

// field lays an object Field of that name, bound to nothing, with the hash that
// it must have.
func (j *journal) field(name string) (uint64, *obj.Field) {
	f := &obj.Field{Hash: j.hash(name), Payload: []byte(name)}
	return j.lay(f), f
}

// bytes answers the journal's bytes, up to its end.
func (j *journal) bytes() []byte {
	h := j.h
	h.Arena = j.end - h.Size
	b := slices.Concat(head.Put(h), entry.PutTable(api.DataTable, j.slots), entry.PutTable(api.FieldTable, j.fields))
	for _, x := range j.laid {
		b = append(b, laidBytes(x)...)
	}
	return b
}

// view answers a view of the journal as it is now.
func (j *journal) view(t *testing.T) *arena.View {
	t.Helper()
	return opened(t, j.bytes())
}

// opened answers a view of b.
func opened(t *testing.T, b []byte) *arena.View {
	t.Helper()
	v, code := arena.Open(b)
	if code != api.Fine || v == nil {
		t.Fatalf("Open of %d bytes: %v, %d", len(b), v, code)
	}
	return v
}

// told is what a right journal answers: the place of each payload and of each
// name, each name's data (the last laid first), and each slot's chain.
type told struct {
	payloads, names map[string]uint64
	datas           map[string][]uint64
	slots, fields   [][]uint64
}

// bound answers a right journal of these payloads, each of them once.
func bound(keyed bool, slots, fields int, payloads ...string) (*journal, told) {
	j := begun(keyed, slots, fields)
	out := told{map[string]uint64{}, map[string]uint64{}, map[string][]uint64{},
		make([][]uint64, slots), make([][]uint64, fields)}
	lastData, lastField, ofName := map[int]*obj.Data{}, map[int]*obj.Field{}, map[string]*obj.Field{}
	for _, p := range payloads {
		at, d := j.data(p)
		s := int(d.Hash % uint64(slots))
		if lastData[s] == nil {
			j.slots[s].Head = at
		} else {
			lastData[s].NextHash = at
		}
		j.slots[s].Tail, lastData[s] = at, d
		name, _, _ := strings.Cut(p, "=")
		if ofName[name] == nil {
			place, f := j.field(name)
			s := int(f.Hash % uint64(fields))
			if lastField[s] == nil {
				j.fields[s].Head = place
			} else {
				lastField[s].NextHash = place
			}
			j.fields[s].Tail, lastField[s], ofName[name] = place, f, f
			out.names[name], out.fields[s] = place, append(out.fields[s], place)
		}
		d.NextField, ofName[name].Data = ofName[name].Data, at
		out.payloads[p], out.slots[s] = at, append(out.slots[s], at)
		out.datas[name] = append([]uint64{at}, out.datas[name]...)
	}
	return j, out
}

// isBucket tells where Bucket does not answer these places.
func isBucket(t *testing.T, v *arena.View, kind, slot int, l ...uint64) {
	t.Helper()
	if got, code := Bucket(v, kind, slot); code != api.Fine || !slices.Equal(got, l) {
		t.Errorf("Bucket(%d, %d): %v, %d; want %v", kind, slot, got, code, l)
	}
}

// isNoBucket tells where Bucket does not tell the code, with nothing beside.
func isNoBucket(t *testing.T, v *arena.View, kind, slot, code int) {
	t.Helper()
	if got, is := Bucket(v, kind, slot); is != code || len(got) > 0 {
		t.Errorf("Bucket(%d, %d): %v, %d; want %d", kind, slot, got, is, code)
	}
}

// isData tells where FindData does not answer that place.
func isData(t *testing.T, v *arena.View, payload string, at uint64) {
	t.Helper()
	if got, code := FindData(v, []byte(payload)); code != api.Fine || got != at {
		t.Errorf("FindData(%q): %d, %d; want %d", payload, got, code, at)
	}
}

// isNoData tells where FindData does not tell the code, with nothing beside.
func isNoData(t *testing.T, v *arena.View, payload string, code int) {
	t.Helper()
	if got, is := FindData(v, []byte(payload)); is != code || got != 0 {
		t.Errorf("FindData(%q): %d, %d; want %d", payload, got, is, code)
	}
}

// isField tells where FindField does not answer that place.
func isField(t *testing.T, v *arena.View, name string, at uint64) {
	t.Helper()
	if got, code := FindField(v, name); code != api.Fine || got != at {
		t.Errorf("FindField(%q): %d, %d; want %d", name, got, code, at)
	}
}

// isNoField tells where FindField, and Datas, do not tell the code, with
// nothing beside.
func isNoField(t *testing.T, v *arena.View, name string, code int) {
	t.Helper()
	if got, is := FindField(v, name); is != code || got != 0 {
		t.Errorf("FindField(%q): %d, %d; want %d", name, got, is, code)
	}
	isNoDatas(t, v, name, code)
}

// isDatas tells where Datas does not answer these places.
func isDatas(t *testing.T, v *arena.View, name string, l ...uint64) {
	t.Helper()
	if got, code := Datas(v, name); code != api.Fine || !slices.Equal(got, l) {
		t.Errorf("Datas(%q): %v, %d; want %v", name, got, code, l)
	}
}

// isNoDatas tells where Datas does not tell the code, with nothing beside.
func isNoDatas(t *testing.T, v *arena.View, name string, code int) {
	t.Helper()
	if got, is := Datas(v, name); is != code || len(got) > 0 {
		t.Errorf("Datas(%q): %v, %d; want %d", name, got, is, code)
	}
}

// toldBucket answers what Bucket answers, by the chapter's words.
func toldBucket(v *arena.View, kind, slot int) ([]uint64, int) {
	table, code := v.Table(kind)
	if code != 0 {
		return nil, code
	}
	if slot < 0 || slot > len(table)-1 {
		return nil, api.ErrRange
	}
	var l []uint64
	for at := table[slot].Head; at > 0 && at < v.End(); {
		if len(l) > 0 && at <= l[len(l)-1] {
			return nil, api.ErrLoop
		}
		l = append(l, at)
		if kind == api.DataTable {
			d, code := v.Data(at)
			if code != 0 {
				return nil, code
			}
			at = d.NextHash
		} else {
			f, code := v.Field(at)
			if code != 0 {
				return nil, code
			}
			at = f.NextHash
		}
	}
	return l, api.Fine
}

// toldFind answers what FindData or FindField answers, by the chapter's words.
func toldFind(v *arena.View, kind int, payload string) (uint64, int) {
	table, code := v.Table(kind)
	if code != 0 {
		return 0, code
	}
	h := v.Hash([]byte(payload))
	at, last := table[h%uint64(len(table))].Head, uint64(0)
	for at != 0 && at < v.End() {
		if at <= last {
			return 0, api.ErrLoop
		}
		d, code := v.Data(at)
		f := obj.Field{}
		if kind == api.FieldTable {
			f, code = v.Field(at)
			d = obj.Data{Hash: f.Hash, NextHash: f.NextHash, Payload: f.Payload}
		}
		if code != 0 {
			return 0, code
		}
		if d.Hash == h && string(d.Payload) == payload {
			return at, 0
		}
		last, at = at, d.NextHash
	}
	return 0, api.ErrNone
}

// toldDatas answers what Datas answers, by the chapter's words.
func toldDatas(v *arena.View, name string) ([]uint64, int) {
	place, code := toldFind(v, api.FieldTable, name)
	if code != 0 {
		return nil, code
	}
	f, _ := v.Field(place)
	var l []uint64
	for at := f.Data; at > 0 && at < v.End(); {
		if len(l) > 0 && at >= l[len(l)-1] {
			return nil, api.ErrLoop
		}
		d, code := v.Data(at)
		if code != 0 {
			return nil, code
		}
		l = append(l, at)
		at = d.NextField
	}
	return l, api.Fine
}
