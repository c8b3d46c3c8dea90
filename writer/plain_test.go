package writer

import (
	"cmp"
	"math"
	"slices"
	"testing"

	"diurnal/api"
	"diurnal/entry"
	"diurnal/hash"
	"diurnal/head"
	"diurnal/obj"
)

// plain is a journal reckoned by the chapter's words: what was laid, in its
// order, and what belongs together as lists. Its bytes, and all that is bound
// in them, are made only when they are asked for.
type plain struct {
	c       Config
	tail    uint64
	end     uint64
	objects []any
	data    []*datum
	fields  []*named
	rows    []*row
	all     places
}

// datum is an object Data, and where the one stands that was laid under its name
// ahead of it; named is a Field, and where the last one of its name stands; row
// is an Entry; block is the k-th array of a list of places.
type (
	datum struct {
		at, ahead uint64
		payload   string
		entries   places
	}
	named struct {
		at, last uint64
		name     string
	}
	row struct {
		at, seq, real, mono uint64
		boot                api.ID
		items               []*datum
	}
	block struct {
		at uint64
		k  int
		of *places
	}
)

// places is a list of entries, and the arrays that have them, but the first
// ones that are elsewhere.
type places struct {
	entries   []uint64
	elsewhere int
	arrays    []*block
}

// plainly answers a journal of no entries.
func plainly(c Config, after uint64) *plain {
	p := &plain{c: c, tail: after, end: 272}
	p.lay(nil, 16+16*c.DataSlots)
	p.lay(nil, 16+16*c.FieldSlots)
	return p
}

// lay lays an object of so many bytes, and answers its place.
func (p *plain) lay(x any, size int) uint64 {
	at := p.end
	p.objects = append(p.objects, x)
	p.end += uint64(size+7) / 8 * 8
	return at
}

// room answers how many items the k-th array of a chain has.
func room(k int) int {
	return []int{4, 8, 16, 32, 64, 128, 256}[min(k, 6)]
}

// add adds an entry of these fields, which are right, unlike and in order.
func (p *plain) add(l []api.Pair, real, mono uint64, boot api.ID) {
	p.tail++
	e := &row{seq: p.tail, real: real, mono: mono, boot: boot}
	for _, f := range l {
		e.items = append(e.items, p.datum(f.Name, f.Name+"="+f.Value))
	}
	slices.SortFunc(e.items, func(a, b *datum) int { return cmp.Compare(a.at, b.at) })
	e.at = p.lay(e, 64+16*len(e.items))
	p.rows = append(p.rows, e)
	p.bind(&p.all, e.at)
	for _, d := range e.items {
		d.entries.elsewhere = 1
		p.bind(&d.entries, e.at)
	}
}

// datum answers that of the payload; a new one, and its field, if it is not
// there.
func (p *plain) datum(name, payload string) *datum {
	for _, d := range p.data {
		if d.payload == payload {
			return d
		}
	}
	d := &datum{payload: payload}
	d.at = p.lay(d, 64+len(payload))
	p.data = append(p.data, d)
	i := slices.IndexFunc(p.fields, func(f *named) bool { return f.name == name })
	if i < 0 {
		i = len(p.fields)
		f := &named{name: name}
		f.at = p.lay(f, 40+len(name))
		p.fields = append(p.fields, f)
	}
	d.ahead, p.fields[i].last = p.fields[i].last, d.at
	return d
}

// bind adds an entry to a list; its arrays get one more where they are full.
func (p *plain) bind(l *places, at uint64) {
	l.entries = append(l.entries, at)
	n := len(l.entries) - l.elsewhere
	for k := range l.arrays {
		n -= room(k)
	}
	if n > 0 {
		a := &block{k: len(l.arrays), of: l}
		a.at = p.lay(a, 24+8*room(a.k))
		l.arrays = append(l.arrays, a)
	}
}

// first answers where the arrays of a list begin: 0, if there are none.
func (l *places) first() uint64 {
	if len(l.arrays) == 0 {
		return 0
	}
	return l.arrays[0].at
}

func (p *plain) hash(s string) uint64 {
	return hash.Of(p.c.Keyed, p.c.File, []byte(s))
}

// chains answers the places in each slot's chain, of these hashes and places.
func chains(slots int, hashes, at []uint64) [][]uint64 {
	l := make([][]uint64, slots)
	for i, h := range hashes {
		l[h%uint64(slots)] = append(l[h%uint64(slots)], at[i])
	}
	return l
}

// chained answers the chains of both tables.
func (p *plain) chained() (data, fields [][]uint64) {
	var hashes, at []uint64
	for _, d := range p.data {
		hashes, at = append(hashes, p.hash(d.payload)), append(at, d.at)
	}
	data = chains(p.c.DataSlots, hashes, at)
	hashes, at = nil, nil
	for _, f := range p.fields {
		hashes, at = append(hashes, p.hash(f.name)), append(at, f.at)
	}
	return data, chains(p.c.FieldSlots, hashes, at)
}

// behind answers what comes behind that place in one of the lists: 0 for
// nothing.
func behind(l [][]uint64, at uint64) uint64 {
	for _, one := range l {
		if i := slices.Index(one, at); i >= 0 && i+1 < len(one) {
			return one[i+1]
		}
	}
	return 0
}

// slotsOf answers the slots of these chains, and the most that are ahead of
// another one.
func slotsOf(l [][]uint64) (out []entry.Slot, depth uint64) {
	for _, one := range l {
		s := entry.Slot{}
		if len(one) > 0 {
			s = entry.Slot{Head: one[0], Tail: one[len(one)-1]}
			depth = max(depth, uint64(len(one)-1))
		}
		out = append(out, s)
	}
	return out, depth
}

// bytes answers the journal's bytes, of that state.
func (p *plain) bytes(state int) []byte {
	data, fields := p.chained()
	dataSlots, dataDepth := slotsOf(data)
	fieldSlots, fieldDepth := slotsOf(fields)
	h := p.head(state)
	h.DataDepth, h.FieldDepth = dataDepth, fieldDepth
	b := slices.Concat(head.Put(h), entry.PutTable(api.DataTable, dataSlots), entry.PutTable(api.FieldTable, fieldSlots))
	for _, x := range p.objects[2:] {
		switch x := x.(type) {
		case *datum:
			d := obj.Data{Hash: p.hash(x.payload), NextHash: behind(data, x.at), NextField: x.ahead, Payload: []byte(x.payload)}
			d.Entry, d.Array, d.Count = x.entries.entries[0], x.entries.first(), uint64(len(x.entries.entries))
			b = append(b, obj.PutData(d)...)
		case *named:
			f := obj.Field{Hash: p.hash(x.name), NextHash: behind(fields, x.at), Data: x.last, Payload: []byte(x.name)}
			b = append(b, obj.PutField(f)...)
		case *row:
			b = append(b, p.row(x)...)
		case *block:
			b = append(b, x.bytes()...)
		}
	}
	return b
}

// row answers an entry's bytes.
func (p *plain) row(x *row) []byte {
	e := entry.Entry{Seq: x.seq, Real: x.real, Mono: x.mono, Boot: x.boot}
	for _, d := range x.items {
		e.Items = append(e.Items, entry.Item{At: d.at, Hash: p.hash(d.payload)})
		e.Xor ^= hash.Lookup([]byte(d.payload))
	}
	return entry.Put(e)
}

// bytes answers an array's bytes: the items that are its own, and 0.
func (a *block) bytes() []byte {
	own := a.of.entries[a.of.elsewhere:]
	for k := range a.k {
		own = own[room(k):]
	}
	items := make([]uint64, room(a.k))
	copy(items, own)
	x := entry.Array{Items: items}
	if a.k+1 < len(a.of.arrays) {
		x.Next = a.of.arrays[a.k+1].at
	}
	return entry.PutArray(x)
}

// head answers the head, but for the depths.
func (p *plain) head(state int) head.Head {
	h := head.Head{Compat: 2, State: state, File: p.c.File, Machine: p.c.Machine, Seq: p.c.Seq, Size: 272, Arena: p.end - 272}
	if p.c.Keyed {
		h.Incompat = 4
	}
	h.DataTable, h.DataSize = 288, uint64(16*p.c.DataSlots)
	h.FieldTable, h.FieldSize = 304+h.DataSize, uint64(16*p.c.FieldSlots)
	h.TailObject, h.Objects, h.TailSeq = h.FieldTable-16, uint64(len(p.objects)), p.tail
	h.Entries, h.Datas, h.Fields = uint64(len(p.rows)), uint64(len(p.data)), uint64(len(p.fields))
	for _, x := range p.objects {
		switch x := x.(type) {
		case *datum:
			h.TailObject = x.at
		case *named:
			h.TailObject = x.at
		case *row:
			h.TailObject = x.at
		case *block:
			h.TailObject = x.at
			h.Arrays++
		}
	}
	if len(p.rows) == 0 {
		return h
	}
	begin, last := p.rows[0], p.rows[len(p.rows)-1]
	h.HeadSeq, h.HeadReal = begin.seq, begin.real
	h.TailReal, h.TailMono, h.Boot, h.TailEntry = last.real, last.mono, last.boot, last.at
	h.Array = p.all.first()
	h.TailItems = uint32(len(p.rows))
	for k, a := range p.all.arrays {
		h.TailArray = uint32(a.at)
		if k > 0 {
			h.TailItems -= uint32(room(k - 1))
		}
	}
	return h
}

// thrown answers some right fields, in no order, some of them more than once.
func thrown(throw func(n int) int) []api.Pair {
	names := []string{"A", "A1", "AA", "B", "_B", "MESSAGE", "LONG_NAME_OF_A_FIELD_THAT_IS_64_BYTES_LONG_AND_NOT_A_BYTE_LONGER"}
	var l []api.Pair
	for range 1 + throw(5) {
		value := make([]byte, []int{0, 1, 1, 1, 2, 3, 7, 8, 40}[throw(9)])
		for i := range value {
			value[i] = "01=\x00\xff"[throw(5)]
		}
		l = append(l, api.Pair{Name: names[throw(len(names))], Value: string(value)})
	}
	return append(l, l[throw(len(l))])
}

// unlike answers the fields of l, each once, by their payloads.
func unlike(l []api.Pair) []api.Pair {
	l = slices.Clone(l)
	slices.SortFunc(l, func(a, b api.Pair) int { return cmp.Compare(a.Name+"="+a.Value, b.Name+"="+b.Value) })
	return slices.Compact(l)
}

// P13.1, P13.2, P13.3: whatever is appended, the image is, byte for byte, what
// the chapter's words make of it; where that is too long, it stays as it was.
func TestImageIsAsReckonedPlainly(t *testing.T) {
	full := 0
	for seed := range uint64(60) {
		throw := dice(seed)
		c := conf([]int{1, 2, 3, 8, 64}[throw(5)], []int{1, 2, 5, 64}[throw(4)])
		c.Keyed = throw(2) == 0
		c.Most = 4096 + throw(28673)
		after := []uint64{0, 7, 1 << 40, math.MaxUint64 - 1000}[throw(4)]
		fs, w := begun(t, c, after)
		p := plainly(c, after)
		for n := range 60 {
			isPlain(t, w, p, seed, n)
			l := thrown(throw)
			real, mono := uint64(throw(1000)), uint64(throw(1000))
			before := *p
			if code := addBoth(w, p, l, real, mono, boot(throw(3))); code != api.Fine {
				if code != api.ErrFull || p.end <= uint64(c.Most) {
					t.Fatalf("seed %d, entry %d: %d for %d bytes of %d", seed, n, code, p.end, c.Most)
				}
				full++
				if w.Tail() != before.tail || uint64(len(w.Image())) != before.end {
					t.Fatalf("seed %d, entry %d: it changed", seed, n)
				}
				break
			}
			if throw(10) == 0 {
				tells(t, "Commit", w.Commit(), api.Fine)
				has(t, fs, "j", p.bytes(api.Online))
			}
		}
	}
	if full < 10 {
		t.Errorf("only %d journals came to be full", full)
	}
}

// addBoth adds an entry to both, and answers the code of w.
func addBoth(w *Writer, p *plain, l []api.Pair, real, mono uint64, boot api.ID) int {
	p.add(unlike(l), real, mono, boot)
	_, code := w.Append(l, real, mono, boot)
	return code
}

// isPlain tells where w is another journal than p.
func isPlain(t *testing.T, w *Writer, p *plain, seed uint64, n int) {
	t.Helper()
	want, got := p.bytes(api.Online), w.Image()
	if w.Tail() != p.tail {
		t.Fatalf("seed %d, entry %d: Tail %d; want %d", seed, n, w.Tail(), p.tail)
	}
	for i := range max(len(want), len(got)) {
		if i >= len(got) || i >= len(want) || got[i] != want[i] {
			t.Fatalf("seed %d, entry %d: the image has %d bytes, want %d; other ones from %d on", seed, n, len(got), len(want), i)
		}
	}
}

// P13.2: chains of many arrays: of all entries, of data that each one has, that
// every third one has, and that few have.
func TestLongChainsAreAsReckonedPlainly(t *testing.T) {
	c := conf(4, 2)
	_, w := begun(t, c, 0)
	p := plainly(c, 0)
	for n := range uint64(1000) {
		l := pairs("A")
		if n%3 == 0 {
			l = append(l, pairs("B1")...)
		}
		if n%50 == 0 {
			l = append(l, pairs("A0")...)
		}
		if code := addBoth(w, p, l, n, n, boot(0)); code != api.Fine {
			// 252 fill six arrays; the first one of data is in none.
			if code != api.ErrFull || n < 256 || p.end <= api.MaxFile {
				t.Fatalf("entry %d: %d", n, code)
			}
			return
		}
		isPlain(t, w, p, 0, int(n))
	}
}
