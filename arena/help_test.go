package arena

import (
	"math"
	"slices"
	"testing"

	"diurnal/api"
	"diurnal/entry"
	"diurnal/field"
	"diurnal/hash"
	"diurnal/head"
	"diurnal/obj"
)

// journal is one that a test lays, object by object.
type journal struct {
	h    head.Head
	rest []byte
}

// begun answers a journal with a head of 272 bytes, a table of 3 slots for the
// data and one of 2 for the fields.
func begun() *journal {
	j := &journal{h: head.Head{Size: 272, State: api.Online,
		File: api.ID{1, 2, 3}, Machine: api.ID{4}, Boot: api.ID{5}, Seq: api.ID{6}}}
	j.h.DataTable = j.lay(entry.PutTable(api.DataTable, dataSlots())) + 16
	j.h.FieldTable = j.lay(entry.PutTable(api.FieldTable, fieldSlots())) + 16
	j.h.DataSize, j.h.FieldSize = 48, 32
	return j
}

func dataSlots() []entry.Slot {
	return []entry.Slot{{Head: 11, Tail: 12}, {Head: 13, Tail: 14}, {Head: 15, Tail: 16}}
}

func fieldSlots() []entry.Slot {
	return []entry.Slot{{Head: 21, Tail: 22}, {Head: 23, Tail: 24}}
}

// lay lays an object behind all others, and answers its place.
func (j *journal) lay(b []byte) uint64 {
	at := 272 + uint64(len(j.rest))
	j.rest = append(j.rest, b...)
	return at
}

// data lays an object Data of that payload, with the hash that it must have.
func (j *journal) data(payload string) entry.Item {
	h := hash.Of(j.h.Incompat != 0, j.h.File, []byte(payload))
	return entry.Item{At: j.lay(obj.PutData(obj.Data{Hash: h, Payload: []byte(payload)})), Hash: h}
}

// entry lays an entry of these items, whose hash of all is that of these
// payloads.
func (j *journal) entry(items []entry.Item, payloads ...string) uint64 {
	return j.lay(entry.Put(whole(items, payloads...)))
}

// whole answers an entry of these items, whose hash of all is that of these
// payloads.
func whole(items []entry.Item, payloads ...string) entry.Entry {
	e := entry.Entry{Seq: 5, Real: 6, Mono: 7, Boot: api.ID{8}, Items: items}
	for _, p := range payloads {
		e.Xor ^= hash.Lookup([]byte(p))
	}
	return e
}

// bytes answers the journal's bytes, up to its end.
func (j *journal) bytes() []byte {
	h := j.h
	h.Arena = 272 + uint64(len(j.rest)) - h.Size
	return slices.Concat(head.Put(h), j.rest)
}

// view answers a view of the journal.
func (j *journal) view(t *testing.T) *View {
	t.Helper()
	return opened(t, j.bytes())
}

// opened answers a view of b.
func opened(t *testing.T, b []byte) *View {
	t.Helper()
	v, code := Open(b)
	if code != api.Fine || v == nil {
		t.Fatalf("Open of %d bytes: %v, %d", len(b), v, code)
	}
	return v
}

// mixed answers a journal that has an object of each kind, and the place of its
// entry; keyed or not. The entry's fields don't stand in the order of their
// names.
func mixed(keyed bool) (*journal, uint64) {
	j := begun()
	if keyed {
		j.h.Incompat = api.Keyed
	}
	j.lay(obj.PutField(obj.Field{Hash: 1, NextHash: 2, Data: 3, Payload: []byte("B")}))
	items := []entry.Item{j.data("B=2"), j.data("A=1=1"), j.data("A=")}
	at := j.entry(items, "B=2", "A=1=1", "A=")
	j.lay(entry.PutArray(entry.Array{Next: 9, Items: []uint64{at, 0, 7}}))
	j.lay(obj.Put(api.Tag, []byte("tagged")))
	j.lay(obj.PutData(obj.Data{Hash: 1, NextHash: 2, NextField: 3, Entry: 4, Array: 5, Count: 6, Payload: []byte("none")}))
	return j, at
}

// record answers the entry of mixed.
func record() api.Record {
	return api.Record{Seq: 5, Real: 6, Mono: 7, Boot: api.ID{8},
		Fields: []api.Pair{{Name: "B", Value: "2"}, {Name: "A", Value: "1=1"}, {Name: "A", Value: ""}}}
}

// places answers each place about b's bytes, and the greatest ones.
func places(b []byte) []uint64 {
	var l []uint64
	for at := range uint64(len(b)) + 40 {
		l = append(l, at)
	}
	return append(l, math.MaxInt64, 1<<63, 1<<63+8, math.MaxUint64-15, math.MaxUint64-7, math.MaxUint64)
}

// sameData, sameField, sameEntry and sameArray tell whether two objects are the
// same, part by part.
func sameData(a, b obj.Data) bool {
	return a.Hash == b.Hash && a.NextHash == b.NextHash && a.NextField == b.NextField && a.Entry == b.Entry &&
		a.Array == b.Array && a.Count == b.Count && string(a.Payload) == string(b.Payload)
}

func sameField(a, b obj.Field) bool {
	return a.Hash == b.Hash && a.NextHash == b.NextHash && a.Data == b.Data && string(a.Payload) == string(b.Payload)
}

func sameEntry(a, b entry.Entry) bool {
	return a.Seq == b.Seq && a.Real == b.Real && a.Mono == b.Mono && a.Boot == b.Boot && a.Xor == b.Xor &&
		slices.Equal(a.Items, b.Items)
}

func sameArray(a, b entry.Array) bool {
	return a.Next == b.Next && slices.Equal(a.Items, b.Items)
}

// isRecord tells where Record does not answer r.
func isRecord(t *testing.T, v *View, at uint64, r api.Record) {
	t.Helper()
	if got, code := v.Record(at); code != api.Fine || !field.SameRecord(got, r) {
		t.Errorf("Record(%d): %+v, %d; want %+v", at, got, code, r)
	}
}

// isRefused tells where Record does not tell the code, with nothing beside.
func isRefused(t *testing.T, v *View, at uint64, code int) {
	t.Helper()
	if got, is := v.Record(at); is != code || !field.SameRecord(got, api.Record{}) {
		t.Errorf("Record(%d): %+v, %d; want %d", at, got, is, code)
	}
}

// isRefusedIn is isRefused of a view that has what was just laid into j.
func isRefusedIn(t *testing.T, j *journal, at uint64, code int) {
	t.Helper()
	isRefused(t, j.view(t), at, code)
}

// isPayload tells where Payload does not answer p.
func isPayload(t *testing.T, v *View, at uint64, p string) {
	t.Helper()
	if got, code := v.Payload(at); code != api.Fine || string(got) != p {
		t.Errorf("Payload(%d): %q, %d; want %q", at, got, code, p)
	}
}

// isNoPayload tells where Payload does not tell the code, with nothing beside.
func isNoPayload(t *testing.T, v *View, at uint64, code int) {
	t.Helper()
	if got, is := v.Payload(at); is != code || len(got) > 0 {
		t.Errorf("Payload(%d): %q, %d; want %d", at, got, is, code)
	}
}

// isTable tells where Table does not answer l.
func isTable(t *testing.T, v *View, kind int, l []entry.Slot) {
	t.Helper()
	if got, code := v.Table(kind); code != api.Fine || !slices.Equal(got, l) {
		t.Errorf("Table(%d): %v, %d; want %v", kind, got, code, l)
	}
}

// isNoTable tells where Table does not tell the code, with nothing beside.
func isNoTable(t *testing.T, v *View, kind, code int) {
	t.Helper()
	if got, is := v.Table(kind); is != code || len(got) > 0 {
		t.Errorf("Table(%d): %v, %d; want %d", kind, got, is, code)
	}
}

// toldPayload answers what Payload answers of the bytes b up to the end, by the
// chapter's words.
func toldPayload(b []byte, h head.Head, at uint64) ([]byte, int) {
	if at < h.Size || at >= uint64(len(b)) {
		return nil, api.ErrRange
	}
	d, code := obj.ReadData(b, at)
	if code != api.Fine {
		return nil, code
	}
	want := hash.Lookup(d.Payload)
	if h.Incompat == 4 {
		want = hash.Sip(h.File, d.Payload)
	}
	if d.Hash != want {
		return nil, api.ErrHash
	}
	return d.Payload, api.Fine
}

// toldRecord answers what Record answers of the bytes b up to the end, by the
// chapter's words.
func toldRecord(b []byte, h head.Head, at uint64) (api.Record, int) {
	if at < h.Size || at >= uint64(len(b)) {
		return api.Record{}, api.ErrRange
	}
	e, code := entry.Read(b, at)
	if code != api.Fine {
		return api.Record{}, code
	}
	if len(e.Items) > 16 {
		return api.Record{}, api.ErrLong
	}
	out := api.Record{Seq: e.Seq, Real: e.Real, Mono: e.Mono, Boot: e.Boot}
	var all [][]byte
	for _, item := range e.Items {
		p, code := toldPayload(b, h, item.At)
		if code != api.Fine {
			return api.Record{}, code
		}
		if item.Hash != hash.Of(h.Incompat == 4, h.File, p) {
			return api.Record{}, api.ErrHash
		}
		pair, code := field.Split(p)
		if code != api.Fine {
			return api.Record{}, code
		}
		out.Fields = append(out.Fields, pair)
		all = append(all, p)
	}
	if entry.Xor(all) != e.Xor {
		return api.Record{}, api.ErrXor
	}
	return out, api.Fine
}
