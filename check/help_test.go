package check

import (
	"slices"
	"testing"

	"diurnal/api"
	"diurnal/entry"
	"diurnal/field"
	"diurnal/hash"
	"diurnal/head"
	"diurnal/obj"
	"diurnal/simfs"
	"diurnal/writer"
)

// sample is a journal that was taken apart: each of its objects can be changed
// up to the time when its bytes are asked for. pad is what stands between the
// head's 272 bytes and the first object; at has the objects' places.
type sample struct {
	h    head.Head
	pad  []byte
	at   []uint64
	laid map[uint64]any
	end  uint64
}

// table is an object of slots.
type table struct {
	kind  int
	slots []entry.Slot
}

// config answers what a journal of so many slots is made with.
func config(dataSlots, fieldSlots int, keyed bool) writer.Config {
	return writer.Config{File: api.ID{1, 2, 3}, Machine: api.ID{4}, Seq: api.ID{5, 6}, DataSlots: dataSlots,
		FieldSlots: fieldSlots, Most: api.MaxFile, Keyed: keyed}
}

// begun answers a new journal in the file j of a directory with much room.
func begun(t *testing.T, c writer.Config, after uint64) (*simfs.FS, *writer.Writer) {
	t.Helper()
	fs, code := simfs.New(api.MaxRoom)
	if code != api.Fine {
		t.Fatalf("New: %d", code)
	}
	w, code := writer.Create(fs, "j", c, after)
	if code != api.Fine {
		t.Fatalf("Create: %d", code)
	}
	return fs, w
}

// written answers the bytes of a journal as a writer makes it, with an entry of
// each of these rows of payloads, the first one of number 1.
func written(t *testing.T, c writer.Config, rows ...[]string) []byte {
	t.Helper()
	_, w := begun(t, c, 0)
	for i, row := range rows {
		n := uint64(i + 1)
		if got, code := w.Append(pairs(t, row), 10*n, 100*n, api.ID{byte(i)}); got != n || code != api.Fine {
			t.Fatalf("Append of %q: %d, %d", row, got, code)
		}
	}
	return w.Image()
}

// pairs answers the fields of these payloads.
func pairs(t *testing.T, row []string) []api.Pair {
	t.Helper()
	var l []api.Pair
	for _, s := range row {
		p, code := field.Split([]byte(s))
		if code != api.Fine {
			t.Fatalf("Split of %q: %d", s, code)
		}
		l = append(l, p)
	}
	return l
}

// some answers a right journal of eight entries, taken apart. A=1 has an array
// that is full and one behind it, and so has the head; C=1 has no array.
func some(t *testing.T) *sample {
	t.Helper()
	rows := [][]string{{"A=1", "B=1"}, {"A=1"}, {"B=1", "A=2"}, {"A=1"}, {"A=1", "C=1"}, {"A=1"}, {"A=1", "B=2"}, {"A=1"}}
	return apart(t, written(t, config(3, 2, true), rows...))
}

// none answers a right journal of no entries, taken apart.
func none(t *testing.T) *sample {
	t.Helper()
	return apart(t, written(t, config(3, 2, false)))
}

// apart takes a right journal apart.
func apart(t *testing.T, b []byte) *sample {
	t.Helper()
	h, code := head.Read(b)
	if code != api.Fine {
		t.Fatalf("Read of the head: %d", code)
	}
	s := &sample{h: h, pad: slices.Clone(b[api.HeadSize:h.Size]), laid: map[uint64]any{}, end: h.Size + h.Arena}
	for at := h.Size; at < s.end; {
		f, code := obj.Read(b[:s.end], at)
		if code != api.Fine {
			t.Fatalf("Read of the object at %d: %d", at, code)
		}
		s.at, s.laid[at] = append(s.at, at), part(t, b[:s.end], at, f.Kind)
		at += (f.Size + 7) &^ 7
	}
	return s
}

// part answers the object of that kind at that place of b.
func part(t *testing.T, b []byte, at uint64, kind int) any {
	t.Helper()
	var x any
	code := api.ErrType
	switch kind {
	case api.Data:
		x, code = pointed(obj.ReadData(b, at))
	case api.Field:
		x, code = pointed(obj.ReadField(b, at))
	case api.Entry:
		x, code = pointed(entry.Read(b, at))
	case api.Array:
		x, code = pointed(entry.ReadArray(b, at))
	case api.DataTable, api.FieldTable:
		slots, told := entry.ReadTable(b, at, kind)
		x, code = &table{kind, slots}, told
	}
	if code != api.Fine {
		t.Fatalf("the object of kind %d at %d: %d", kind, at, code)
	}
	return x
}

// pointed answers where x is, and the code beside it.
func pointed[T any](x T, code int) (*T, int) { return &x, code }

// laidBytes answers an object's bytes.
func laidBytes(x any) []byte {
	switch x := x.(type) {
	case *obj.Data:
		return obj.PutData(*x)
	case *obj.Field:
		return obj.PutField(*x)
	case *entry.Entry:
		return entry.Put(*x)
	case *entry.Array:
		return entry.PutArray(*x)
	case *table:
		return entry.PutTable(x.kind, x.slots)
	}
	return x.([]byte)
}

// lay lays an object behind all others, and lets the head count it. It answers
// its place.
func (s *sample) lay(x any) uint64 {
	at, b := s.end, laidBytes(x)
	s.at, s.laid[at] = append(s.at, at), x
	s.end += uint64(len(b))
	s.h.Objects, s.h.TailObject = s.h.Objects+1, at
	for kind, n := range s.counts() {
		if int(b[0]) == kind {
			*n++
		}
	}
	return at
}

// counts answers where the head has how many objects there are of each kind
// that it counts.
func (s *sample) counts() map[int]*uint64 {
	return map[int]*uint64{api.Data: &s.h.Datas, api.Field: &s.h.Fields, api.Entry: &s.h.Entries, api.Array: &s.h.Arrays, api.Tag: &s.h.Tags}
}

// bytes answers the journal's bytes, up to its end.
func (s *sample) bytes() []byte {
	h := s.h
	h.Arena = s.end - h.Size
	b := append(head.Put(h), s.pad...)
	for _, at := range s.at {
		b = append(b, laidBytes(s.laid[at])...)
	}
	return b
}

// hash answers that of a payload in this journal.
func (s *sample) hash(payload string) uint64 {
	return hash.Of(s.h.Incompat != 0, s.h.File, []byte(payload))
}

// data answers the Data of that payload, and its place.
func (s *sample) data(payload string) (*obj.Data, uint64) {
	return found(s, func(d *obj.Data) bool { return string(d.Payload) == payload })
}

// field answers the Field of that name, and its place.
func (s *sample) field(name string) (*obj.Field, uint64) {
	return found(s, func(f *obj.Field) bool { return string(f.Payload) == name })
}

// entry answers the entry of that number, and its place.
func (s *sample) entry(seq uint64) (*entry.Entry, uint64) {
	return found(s, func(e *entry.Entry) bool { return e.Seq == seq })
}

// table answers the table of that kind.
func (s *sample) table(kind int) *table {
	x, _ := found(s, func(x *table) bool { return x.kind == kind })
	return x
}

// array answers the array at that place.
func (s *sample) array(at uint64) *entry.Array { return s.laid[at].(*entry.Array) }

// found answers the first object for which is holds, and its place.
func found[T any](s *sample, is func(x T) bool) (T, uint64) {
	for _, at := range s.at {
		if x, ok := s.laid[at].(T); ok && is(x) {
			return x, at
		}
	}
	panic("no such object")
}

// last answers the chain's last array from that place on.
func (s *sample) last(at uint64) *entry.Array {
	for a := s.array(at); ; a = s.array(a.Next) {
		if a.Next == 0 {
			return a
		}
	}
}

// add lays a right entry of that number, of these payloads, which are there, and
// links it to the head and to them.
func (s *sample) add(seq uint64, payloads ...string) (*entry.Entry, uint64) {
	e := &entry.Entry{Seq: seq}
	for _, p := range payloads {
		d, at := s.data(p)
		e.Items = append(e.Items, entry.Item{At: at, Hash: d.Hash})
		e.Xor ^= hash.Lookup([]byte(p))
	}
	at := s.lay(e)
	for _, p := range payloads {
		d, _ := s.data(p)
		d.Count++
		if d.Array == 0 {
			d.Array = s.lay(&entry.Array{Items: []uint64{at, 0, 0, 0}})
		} else {
			put(s.last(d.Array), at)
		}
	}
	put(s.last(s.h.Array), at)
	s.h.TailSeq = max(s.h.TailSeq, seq)
	return e, at
}

// put makes item the last one of that array, which has room.
func put(a *entry.Array, item uint64) {
	a.Items[slices.Index(a.Items, 0)] = item
}

// isCheck tells where Check of these bytes does not answer this, or where it
// changes them.
func isCheck(t *testing.T, what string, b []byte, at uint64, code int) {
	t.Helper()
	was := slices.Clone(b)
	if got, told := Check(b); got != at || told != code {
		t.Errorf("%s: Check: %d, %d; want %d, %d", what, got, told, at, code)
	}
	if !slices.Equal(b, was) {
		t.Errorf("%s: Check changed what it was handed", what)
	}
}

// isObjects tells where Objects of these bytes does not answer these, or where
// it changes them.
func isObjects(t *testing.T, what string, b []byte, code int, l ...uint64) {
	t.Helper()
	was := slices.Clone(b)
	if got, told := Objects(b); told != code || !slices.Equal(got, l) {
		t.Errorf("%s: Objects: %v, %d; want %v, %d", what, got, told, l, code)
	}
	if !slices.Equal(b, was) {
		t.Errorf("%s: Objects changed what it was handed", what)
	}
}

// dice answers numbers that are as good as thrown, the same ones each time.
func dice(seed uint64) func(n int) int {
	state := seed*0x9e3779b97f4a7c15 + 1
	return func(n int) int {
		state = state*6364136223846793005 + 1442695040888963407
		return int(state >> 33 % uint64(n))
	}
}
