package arena

import (
	"bytes"
	"math/rand/v2"
	"slices"
	"strings"
	"testing"

	"diurnal/api"
	"diurnal/entry"
	"diurnal/field"
	"diurnal/hash"
	"diurnal/obj"
)

// P10.2: Payload of an object Data whose Hash is its Payload's: any bytes.
func TestPayload(t *testing.T) {
	for _, keyed := range []bool{false, true} {
		j, _ := mixed(keyed)
		items := map[string]entry.Item{}
		for _, p := range []string{"A=1", "=", "no field", "\x00", "\xff\x00\xff", strings.Repeat("x", 1000)} {
			items[p] = j.data(p)
		}
		v := j.view(t)
		for p, item := range items {
			isPayload(t, v, item.At, p)
		}
	}
}

// P10.2: Payload tells Data's code.
func TestPayloadTellsDatasCode(t *testing.T) {
	j, at := mixed(false)
	x := j.data("A=1").At
	b := j.bytes()
	v := opened(t, b)
	for _, c := range []struct {
		at   uint64
		code int
	}{
		{0, api.ErrRange}, {264, api.ErrRange}, {v.End(), api.ErrRange}, {1 << 63, api.ErrRange},
		{x + 1, api.ErrAlign}, {272, api.ErrType}, {at, api.ErrType}, {x + 24, api.ErrType},
	} {
		isNoPayload(t, v, c.at, c.code)
	}
	for _, c := range []struct {
		at   uint64
		v    byte
		code int
	}{
		{x + 1, 1, api.ErrFlags}, {x + 8, 15, api.ErrSize}, {x + 8, 64, api.ErrSize}, {x + 9, 1, api.ErrRange},
	} {
		// Its Hash is another one, too.
		spoilt := bytes.Clone(b)
		spoilt[c.at] = c.v
		spoilt[x+16] ^= 1
		isNoPayload(t, opened(t, spoilt), x, c.code)
	}
}

// P10.2: ErrHash where one bit of the Payload, or of the Hash, is another one.
func TestPayloadOfAnotherHash(t *testing.T) {
	for _, keyed := range []bool{false, true} {
		j, _ := mixed(keyed)
		x := j.data("A=12").At
		b := j.bytes()
		for bit := range 8 * 8 {
			spoilt := bytes.Clone(b)
			spoilt[x+16+uint64(bit/8)] ^= 1 << (bit % 8)
			isNoPayload(t, opened(t, spoilt), x, api.ErrHash)
		}
		for bit := range 4 * 8 {
			spoilt := bytes.Clone(b)
			spoilt[x+64+uint64(bit/8)] ^= 1 << (bit % 8)
			isNoPayload(t, opened(t, spoilt), x, api.ErrHash)
		}
		// The other numbers are no part of it.
		for at := x + 24; at < x+64; at++ {
			spoilt := bytes.Clone(b)
			spoilt[at] ^= 0xff
			isPayload(t, opened(t, spoilt), x, "A=12")
		}
	}
}

// P10.2: the Hash is the journal's own: keyed by its File, or not.
func TestPayloadByTheJournalsHash(t *testing.T) {
	for _, keyed := range []bool{false, true} {
		j, _ := mixed(keyed)
		p := []byte("A=1")
		plain := j.lay(obj.PutData(obj.Data{Hash: hash.Lookup(p), Payload: p}))
		own := j.lay(obj.PutData(obj.Data{Hash: hash.Sip(j.h.File, p), Payload: p}))
		other := j.lay(obj.PutData(obj.Data{Hash: hash.Sip(j.h.Machine, p), Payload: p}))
		v := j.view(t)
		if keyed {
			plain, own = own, plain
		}
		isPayload(t, v, plain, "A=1")
		isNoPayload(t, v, own, api.ErrHash)
		isNoPayload(t, v, other, api.ErrHash)
	}
}

// P10.2: the entry, its fields in the order of its items, not of their names.
func TestRecord(t *testing.T) {
	for _, keyed := range []bool{false, true} {
		j, at := mixed(keyed)
		isRecord(t, j.view(t), at, record())
	}
}

// P10.2: a payload that stands twice is told twice; the order is that of the
// items also where it isn't that of the objects' writing, and the numbers are
// told as they stand.
func TestRecordOfLikeFields(t *testing.T) {
	j := begun()
	one, two := j.data("A=1"), j.data("A=1")
	e := whole([]entry.Item{one, two}, "A=1", "A=1")
	if e.Xor != 0 {
		t.Fatalf("hash of all: %x", e.Xor)
	}
	e.Seq, e.Real, e.Mono, e.Boot = 1<<64-1, 1<<64-2, 1<<64-3, api.ID([]byte("abcdefghijklmnop"))
	at := j.lay(entry.Put(e))
	isRecord(t, j.view(t), at, api.Record{Seq: 1<<64 - 1, Real: 1<<64 - 2, Mono: 1<<64 - 3,
		Boot: e.Boot, Fields: []api.Pair{{Name: "A", Value: "1"}, {Name: "A", Value: "1"}}})
}

// P10.2: Record tells Entry's code.
func TestRecordTellsEntrysCode(t *testing.T) {
	j, at := mixed(false)
	b := j.bytes()
	v := opened(t, b)
	item := slices.Clone(mustEntry(t, v, at).Items)[0]
	for place, code := range map[uint64]int{
		0: api.ErrRange, 264: api.ErrRange, v.End(): api.ErrRange, 1 << 63: api.ErrRange,
		at + 4: api.ErrAlign, 272: api.ErrType, item.At: api.ErrType,
	} {
		isRefused(t, v, place, code)
	}
	for _, c := range []struct {
		at   uint64
		v    string
		code int
	}{
		{at + 1, "\x01", api.ErrFlags},
		{at + 8, "\x0f", api.ErrSize},
		{at + 8, "\x41", api.ErrSize},
		{at + 9, "\x80", api.ErrRange},
		{at + 16, "\x00", api.ErrOrder},
		{at + 64, "\xff\xff", api.ErrItems},
	} {
		spoilt := bytes.Clone(b)
		copy(spoilt[c.at:], c.v)
		isRefused(t, opened(t, spoilt), at, c.code)
	}
}

func mustEntry(t *testing.T, v *View, at uint64) entry.Entry {
	t.Helper()
	e, code := v.Entry(at)
	if code != api.Fine {
		t.Fatalf("Entry(%d): %d", at, code)
	}
	return e
}

// P10.2: 16 items are right, 17 are ErrLong, ahead of what is amiss with an
// item or with the hash of all, and behind Entry's code.
func TestRecordOfManyItems(t *testing.T) {
	j := begun()
	var items []entry.Item
	var payloads []string
	var want []api.Pair
	for i := range 18 {
		value := string([]byte{'0' + byte(i)})
		items = append(items, j.data("A="+value))
		payloads = append(payloads, "A="+value)
		want = append(want, api.Pair{Name: "A", Value: value})
	}
	for n := 1; n <= 18; n++ {
		at := j.entry(items[:n], payloads[:n]...)
		if n <= 16 {
			isRecord(t, j.view(t), at, api.Record{Seq: 5, Real: 6, Mono: 7, Boot: api.ID{8}, Fields: want[:n]})
		} else {
			isRefused(t, j.view(t), at, api.ErrLong)
		}
	}
	none := slices.Clone(items[:17])
	none[0] = entry.Item{At: 1}
	isRefusedIn(t, j, j.entry(none), api.ErrLong)
	e := whole(items[:17])
	e.Seq = 0
	isRefusedIn(t, j, j.lay(entry.Put(e)), api.ErrOrder)
	none[0], none[1] = none[1], none[0]
	isRefusedIn(t, j, j.entry(none), api.ErrItems)
}

// amiss answers what may be amiss with an item, by its code: that item, laid
// into j, and its payload, where it has one.
func amiss(j *journal, kind string) (entry.Item, string, int) {
	long, ends := "A="+strings.Repeat("v", 257), func(i entry.Item) entry.Item { i.Hash ^= 1 << 63; return i }
	switch kind {
	case "nowhere":
		return entry.Item{At: j.lay(nil) + 1<<20}, "", api.ErrRange
	case "between":
		return entry.Item{At: j.lay(obj.Put(api.Tag, nil)) + 4}, "", api.ErrAlign
	case "kind":
		return entry.Item{At: j.lay(obj.Put(api.Tag, []byte("A=1")))}, "", api.ErrType
	case "flags":
		b := obj.PutData(obj.Data{Hash: hash.Lookup([]byte("A=1")), Payload: []byte("A=1")})
		b[1] = 1
		return entry.Item{At: j.lay(b), Hash: hash.Lookup([]byte("A=1"))}, "A=1", api.ErrFlags
	case "object's hash":
		b := obj.PutData(obj.Data{Hash: 5, Payload: []byte("no text")})
		return entry.Item{At: j.lay(b), Hash: 5}, "no text", api.ErrHash
	case "item's hash":
		return ends(j.data("no text")), "no text", api.ErrHash
	case "text":
		return j.data("a=1"), "a=1", api.ErrText
	case "no =":
		return j.data("A"), "A", api.ErrText
	case "value":
		return j.data(long), long, api.ErrLong
	}
	return j.data("A=1"), "A=1", api.Fine
}

// kinds answers what amiss knows.
func kinds() []string {
	return []string{"nowhere", "between", "kind", "flags", "object's hash", "item's hash", "text", "no =", "value"}
}

// P10.2: the codes of an item, each ahead of another hash of all.
func TestRecordOfItemsAmiss(t *testing.T) {
	for _, keyed := range []bool{false, true} {
		for _, kind := range kinds() {
			j, _ := mixed(keyed)
			if kind == "flags" && keyed {
				continue // its hash is the plain one
			}
			item, payload, code := amiss(j, kind)
			isRefusedIn(t, j, j.entry([]entry.Item{item}, payload), code)
			isRefusedIn(t, j, j.entry([]entry.Item{item}, payload, "another"), code)
		}
	}
}

// P10.2: item by item: what is amiss with the first that is wrong is told,
// whatever the later ones are.
func TestRecordItemByItem(t *testing.T) {
	for _, first := range kinds() {
		for _, second := range kinds() {
			if first == "nowhere" {
				continue // nothing stands behind it
			}
			j := begun()
			right, p := j.data("A=1"), "A=1"
			one, p1, code := amiss(j, first)
			two, p2, _ := amiss(j, second)
			isRefusedIn(t, j, j.entry([]entry.Item{right, one, two}, p, p1, p2), code)
			isRefusedIn(t, j, j.entry([]entry.Item{one, two}), code)
		}
	}
}

// P10.2: ErrXor where the hash of all is another one, by any bit; it is
// Lookup's also where the payloads' own are keyed.
func TestRecordOfAnotherXor(t *testing.T) {
	for _, keyed := range []bool{false, true} {
		j, _ := mixed(keyed)
		items := []entry.Item{j.data("A=1"), j.data("B=2")}
		right := whole(items, "A=1", "B=2")
		for bit := range 64 {
			e := right
			e.Xor ^= 1 << bit
			isRefusedIn(t, j, j.lay(entry.Put(e)), api.ErrXor)
		}
		e := right
		e.Xor = items[0].Hash ^ items[1].Hash
		at := j.lay(entry.Put(e))
		if keyed {
			isRefused(t, j.view(t), at, api.ErrXor)
		} else {
			isRecord(t, j.view(t), at, api.Record{Seq: 5, Real: 6, Mono: 7, Boot: api.ID{8},
				Fields: []api.Pair{{Name: "A", Value: "1"}, {Name: "B", Value: "2"}}})
		}
		isRefusedIn(t, j, j.entry(items, "A=1"), api.ErrXor)
		isRefusedIn(t, j, j.entry(items[:1], "A=1", "B=2"), api.ErrXor)
		isRefusedIn(t, j, j.entry(items), api.ErrXor)
	}
}

// P10.2: at the greatest value, and where the names end.
func TestRecordOfFieldsAtTheirEdges(t *testing.T) {
	value, name := strings.Repeat("=", 256), strings.Repeat("N", 64)
	j := begun()
	item := j.data(name + "=" + value)
	at := j.entry([]entry.Item{item}, name+"="+value)
	isRecord(t, j.view(t), at, api.Record{Seq: 5, Real: 6, Mono: 7, Boot: api.ID{8}, Fields: []api.Pair{{Name: name, Value: value}}})
	for payload, code := range map[string]int{
		name + "=" + value + "=": api.ErrLong, "N" + name + "=" + value: api.ErrText, "=" + value: api.ErrText, name: api.ErrText,
	} {
		item = j.data(payload)
		isRefusedIn(t, j, j.entry([]entry.Item{item}, payload), code)
	}
}

// P10.1, P10.2: of bytes that are spoilt at random places, what the chapter's
// words say, at every place.
func TestSpoiltJournals(t *testing.T) {
	r := rand.New(rand.NewPCG(10, 2))
	codes := map[int]int{}
	for range 4000 {
		j, entryAt := mixed(r.IntN(2) == 0)
		b := j.bytes()
		for range 1 + r.IntN(3) {
			b[272+r.IntN(len(b)-272)] ^= 1 << r.IntN(8)
		}
		v := opened(t, b)
		for at := uint64(272); at < v.End(); at += 8 {
			p, code := toldPayload(b, v.Head(), at)
			if got, is := v.Payload(at); is != code || !bytes.Equal(got, p) {
				t.Fatalf("Payload(%d) of %x: %q, %d; want %q, %d", at, b, got, is, p, code)
			}
		}
		want, code := toldRecord(b, v.Head(), entryAt)
		if got, is := v.Record(entryAt); is != code || !field.SameRecord(got, want) {
			t.Fatalf("Record(%d) of %x: %+v, %d; want %+v, %d", entryAt, b, got, is, want, code)
		}
		codes[code]++
	}
	for _, code := range []int{api.Fine, api.ErrRange, api.ErrAlign, api.ErrType, api.ErrFlags, api.ErrHash, api.ErrItems, api.ErrXor} {
		if codes[code] == 0 {
			t.Errorf("no journal was spoilt so that its code is %d", code)
		}
	}
}

// P0.4: whatever is done to a payload or a record, no later answer shows it.
func TestRecordsAnswersAreNew(t *testing.T) {
	j, at := mixed(false)
	v := j.view(t)
	x := mustEntry(t, v, at).Items[0].At
	for range 2 {
		p, _ := v.Payload(x)
		for i := range p[:cap(p)] {
			p[:cap(p)][i] = 0xff
		}
		r, _ := v.Record(at)
		for i := range r.Fields[:cap(r.Fields)] {
			r.Fields[:cap(r.Fields)][i] = api.Pair{Name: "X", Value: "Y"}
		}
		isPayload(t, v, x, "B=2")
		isRecord(t, v, at, record())
	}
}
