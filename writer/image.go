package writer

import (
	"bytes"
	"cmp"
	"slices"

	"diurnal/api"
	"diurnal/arena"
	"diurnal/chain"
	"diurnal/entry"
	"diurnal/field"
	"diurnal/head"
	"diurnal/link"
	"diurnal/obj"
)

// image is a journal in memory. b has all its bytes, but for the head, whose
// place in it is not filled; of h, Arena is reckoned when the bytes are asked
// for. It is right at all times, so that what reads it tells no code but that
// nothing is found.
type image struct {
	h head.Head
	b []byte
}

// stamp is when an entry was written.
type stamp struct {
	real, mono uint64
	boot       api.ID
}

// arrays is a chain of them: where its first one stands, where its last one
// does, and how many items of that are there.
type arrays struct{ first, last, items uint64 }

const (
	// front is how many bytes of its object stand ahead of a table's slots, slot
	// how many one of these has.
	front = 16
	slot  = 16
	// compat are the compatible flags that a journal is made with.
	compat = 2
)

// blank answers a journal of no entries, as c wants it.
func blank(c Config, after uint64) image {
	m := image{b: make([]byte, api.HeadSize)}
	m.h = head.Head{Compat: compat, State: api.Online, Size: api.HeadSize, TailSeq: after}
	m.h.File, m.h.Machine, m.h.Seq = c.File, c.Machine, c.Seq
	if c.Keyed {
		m.h.Incompat = api.Keyed
	}
	m.h.DataTable, m.h.DataSize = m.layTable(api.DataTable, c.DataSlots)
	m.h.FieldTable, m.h.FieldSize = m.layTable(api.FieldTable, c.FieldSlots)
	return m
}

// copied answers the same image in memory of its own.
func (m *image) copied() image {
	return image{h: m.h, b: bytes.Clone(m.b)}
}

// bytes answers all bytes of the journal.
func (m *image) bytes() []byte {
	h := m.h
	h.Arena = uint64(len(m.b)) - h.Size
	return append(head.Put(h), m.b[api.HeadSize:]...)
}

// view answers a view of the journal as it is now.
func (m *image) view() *arena.View {
	v, _ := arena.Open(m.bytes())
	return v
}

// lay lays an object at the end, and answers its place.
func (m *image) lay(object []byte) uint64 {
	at := uint64(len(m.b))
	m.b = append(m.b, object...)
	m.h.TailObject = at
	m.h.Objects++
	return at
}

// put lays an object over the one at that place, which is as long.
func (m *image) put(at uint64, object []byte) {
	copy(m.b[at:], object)
}

// layTable lays a table of so many empty slots. It answers where these stand,
// and how many bytes they have.
func (m *image) layTable(kind, slots int) (at, size uint64) {
	at = m.lay(entry.PutTable(kind, make([]entry.Slot, slots)))
	return at + front, uint64(slots) * slot
}

// add lays an entry of these fields, with all that it needs, and links it.
func (m *image) add(fields []api.Pair, s stamp) {
	e := entry.Entry{Seq: m.h.TailSeq + 1, Real: s.real, Mono: s.mono, Boot: s.boot}
	var payloads [][]byte
	for _, p := range fields {
		payload, _ := field.Join(p)
		payloads = append(payloads, payload)
		e.Items = append(e.Items, m.item(p.Name, payload))
	}
	slices.SortFunc(e.Items, func(a, b entry.Item) int { return cmp.Compare(a.At, b.At) })
	e.Xor = entry.Xor(payloads)
	at := m.lay(entry.Put(e))
	m.note(e, at)
	m.linkToHead(at)
	for _, item := range e.Items {
		m.linkToData(item.At, at)
	}
}

// note lets the head know of the entry at that place as the last one.
func (m *image) note(e entry.Entry, at uint64) {
	if m.h.Entries == 0 {
		m.h.HeadSeq, m.h.HeadReal = e.Seq, e.Real
	}
	m.h.TailSeq, m.h.TailReal, m.h.TailMono, m.h.Boot = e.Seq, e.Real, e.Mono, e.Boot
	m.h.TailEntry = at
}

// item answers an entry's item of that payload: where no object has it, of a
// new one.
func (m *image) item(name string, payload []byte) entry.Item {
	v := m.view()
	at, code := chain.FindData(v, payload)
	if code != api.Fine {
		at = m.layData(v, name, payload)
	}
	return entry.Item{At: at, Hash: v.Hash(payload)}
}

// layData lays an object of that payload, and behind it, where there is none,
// one of its field's name; v is of the journal ahead of that. It answers the
// payload's place.
func (m *image) layData(v *arena.View, name string, payload []byte) uint64 {
	f, fieldAt := fieldOf(v, name)
	d := obj.Data{Hash: v.Hash(payload), NextField: f.Data, Payload: payload}
	at := m.lay(obj.PutData(d))
	m.h.Datas++
	m.h.DataDepth = max(m.h.DataDepth, m.enter(v, api.DataTable, d.Hash, at))
	f.Data = at
	if fieldAt == 0 {
		m.layField(v, f)
	} else {
		m.put(fieldAt, obj.PutField(f))
	}
	return at
}

// fieldOf answers the field of that name, and its place: where there is none, a
// new one, and 0.
func fieldOf(v *arena.View, name string) (obj.Field, uint64) {
	at, code := chain.FindField(v, name)
	if code != api.Fine {
		return obj.Field{Hash: v.Hash([]byte(name)), Payload: []byte(name)}, 0
	}
	f, _ := v.Field(at)
	return f, at
}

// layField lays that field, which v has not.
func (m *image) layField(v *arena.View, f obj.Field) {
	at := m.lay(obj.PutField(f))
	m.h.Fields++
	m.h.FieldDepth = max(m.h.FieldDepth, m.enter(v, api.FieldTable, f.Hash, at))
}

// enter makes the object of that hash at that place the last one of its slot's
// chain, in the table of that kind, as v has it. It answers how many stand
// ahead of it.
func (m *image) enter(v *arena.View, kind int, hash, at uint64) uint64 {
	slots, _ := v.Table(kind)
	i := hash % uint64(len(slots))
	ahead, _ := chain.Bucket(v, kind, int(i))
	if len(ahead) == 0 {
		slots[i].Head = at
	} else {
		m.follow(kind, slots[i].Tail, at)
	}
	slots[i].Tail = at
	m.put(m.table(kind), entry.PutTable(kind, slots))
	return uint64(len(ahead))
}

// follow lets the object at the place next come behind the one at that place,
// in a chain of the table of that kind.
func (m *image) follow(kind int, at, next uint64) {
	if kind == api.FieldTable {
		f, _ := obj.ReadField(m.b, at)
		f.NextHash = next
		m.put(at, obj.PutField(f))
		return
	}
	d, _ := obj.ReadData(m.b, at)
	d.NextHash = next
	m.put(at, obj.PutData(d))
}

// table answers where the object of the table of that kind stands.
func (m *image) table(kind int) uint64 {
	if kind == api.FieldTable {
		return m.h.FieldTable - front
	}
	return m.h.DataTable - front
}

// linkToHead makes the entry at that place the last one of all.
func (m *image) linkToHead(at uint64) {
	all := m.extend(m.h.Array, m.h.Entries, at)
	m.h.Array, m.h.TailArray, m.h.TailItems = all.first, uint32(all.last), uint32(all.items)
	m.h.Entries++
}

// linkToData makes the entry at that place the last one of that object Data.
func (m *image) linkToData(data, at uint64) {
	d, _ := obj.ReadData(m.b, data)
	if d.Count == 0 {
		d.Entry = at
	} else {
		// The first one stands in the object itself.
		d.Array = m.extend(d.Array, d.Count-1, at).first
	}
	d.Count++
	m.put(data, obj.PutData(d))
}

// extend makes item the last one of the chain of arrays from first on, which
// has so many. Where they are full it lays a new array behind them. It answers
// the chain as it is then.
func (m *image) extend(first, count, item uint64) arrays {
	k, ahead, at := 0, uint64(0), first
	for count >= uint64(link.Room(k)) {
		count -= uint64(link.Room(k))
		ahead, at = at, m.array(at).Next
		k++
	}
	if at == 0 {
		at = m.layArray(k, ahead)
	}
	a := m.array(at)
	a.Items[count] = item
	m.put(at, entry.PutArray(a))
	if k == 0 {
		first = at
	}
	return arrays{first, at, count + 1}
}

// layArray lays the k-th array of a chain, and lets it come behind the one
// ahead, if there is one. It answers its place.
func (m *image) layArray(k int, ahead uint64) uint64 {
	at := m.lay(entry.PutArray(entry.Array{Items: make([]uint64, link.Room(k))}))
	m.h.Arrays++
	if ahead != 0 {
		a := m.array(ahead)
		a.Next = at
		m.put(ahead, entry.PutArray(a))
	}
	return at
}

// array answers the array at that place.
func (m *image) array(at uint64) entry.Array {
	a, _ := entry.ReadArray(m.b, at)
	return a
}
