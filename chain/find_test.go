package chain

import (
	"math"
	"slices"
	"strings"
	"testing"

	"diurnal/api"
	"diurnal/obj"
)

// P11.1: the example, and FindField and Datas of a new journal.
func TestFindInANewJournal(t *testing.T) {
	for _, keyed := range []bool{false, true} {
		v := begun(keyed, 3, 2).view(t)
		for _, p := range []string{"", "A", "A=1", "=", "A="} {
			isNoData(t, v, p, api.ErrNone)
			isNoField(t, v, p, api.ErrNone)
		}
	}
}

// P11.1: of right journals: each payload and each name where it was laid, and
// ErrNone of what was not.
func TestFind(t *testing.T) {
	for _, n := range []int{1, 2, 3, 10, 60} {
		for _, slots := range []int{1, 2, 3, 8, 64} {
			for _, keyed := range []bool{false, true} {
				j, is := bound(keyed, slots, 1+slots/2, payloads(n)...)
				v := j.view(t)
				for p, at := range is.payloads {
					isData(t, v, p, at)
					isNoData(t, v, p+"x", api.ErrNone)
					isNoData(t, v, p[:len(p)-1], api.ErrNone)
					isNoData(t, v, p+"\x00", api.ErrNone)
					isNoField(t, v, p, api.ErrNone)
				}
				for name, at := range is.names {
					isField(t, v, name, at)
					isNoField(t, v, name+"=", api.ErrNone)
					isNoField(t, v, name+"\x00", api.ErrNone)
					isNoField(t, v, strings.ToLower(name), api.ErrNone)
					isNoData(t, v, name, api.ErrNone)
				}
				isNoData(t, v, "", api.ErrNone)
				isNoField(t, v, "", api.ErrNone)
			}
		}
	}
}

// P11.1: any bytes are a payload, and a name.
func TestFindAnyBytes(t *testing.T) {
	every := make([]byte, 256)
	for i := range every {
		every[i] = byte(i)
	}
	for _, p := range []string{"\x00", "\x00\x00", "=", "no text", "\xff=\xfe", string(every), strings.Repeat("A", 5000)} {
		j := begun(false, 2, 2)
		at, d := j.data(p)
		place, f := j.field(p)
		j.slots[d.Hash%2].Head, j.fields[f.Hash%2].Head = at, place
		v := j.view(t)
		isData(t, v, p, at)
		isField(t, v, p, place)
		isDatas(t, v, p)
	}
}

// P11.1: the first that has the hash and the payload: neither does alone.
func TestFindTheFirst(t *testing.T) {
	j := begun(false, 1, 1)
	ownHash, one := j.data("A=1")
	ownText, two := j.data("A=2")
	at, three := j.data("A=1")
	again, four := j.data("A=1")
	one.Hash, two.Hash = one.Hash+1, one.Hash
	j.slots[0].Head = ownHash
	one.NextHash, two.NextHash, three.NextHash = ownText, at, again
	isData(t, j.view(t), "A=1", at)
	isNoData(t, j.view(t), "A=2", api.ErrNone)
	three.Hash ^= 1 << 63
	isData(t, j.view(t), "A=1", again)
	four.Payload[2] = '3'
	isNoData(t, j.view(t), "A=1", api.ErrNone)
	isNoData(t, j.view(t), "A=3", api.ErrNone)
	four.Hash = j.hash("A=3")
	isData(t, j.view(t), "A=3", again)
}

// P11.1: likewise a Field; Datas goes by the one that is found.
func TestFindTheFirstField(t *testing.T) {
	j := begun(false, 1, 1)
	ownHash, one := j.field("A")
	ownText, two := j.field("B")
	place, three := j.field("A")
	again, four := j.field("A")
	x, _ := j.data("A=1")
	y, _ := j.data("A=2")
	one.Hash, two.Hash = one.Hash+1, one.Hash
	one.Data, two.Data, three.Data, four.Data = 1, 1, x, y
	j.fields[0].Head = ownHash
	one.NextHash, two.NextHash, three.NextHash = ownText, place, again
	isField(t, j.view(t), "A", place)
	isDatas(t, j.view(t), "A", x)
	isNoField(t, j.view(t), "B", api.ErrNone)
	three.Hash ^= 1 << 63
	isField(t, j.view(t), "A", again)
	isDatas(t, j.view(t), "A", y)
	four.Payload[0] = 'C'
	isNoField(t, j.view(t), "A", api.ErrNone)
	isNoField(t, j.view(t), "C", api.ErrNone)
}

// P11.1: only in the chain of the slot that the hash has.
func TestFindInItsOwnSlot(t *testing.T) {
	for _, keyed := range []bool{false, true} {
		for _, slots := range []uint64{1, 2, 3, 5, 64} {
			j := begun(keyed, int(slots), int(slots))
			at, d := j.data("A=1")
			place, f := j.field("A")
			for s := range slots {
				clear(j.slots)
				clear(j.fields)
				j.slots[s].Head, j.fields[s].Head = at, place
				v := j.view(t)
				if d.Hash%slots == s {
					isData(t, v, "A=1", at)
				} else {
					isNoData(t, v, "A=1", api.ErrNone)
				}
				if f.Hash%slots == s {
					isField(t, v, "A", place)
				} else {
					isNoField(t, v, "A", api.ErrNone)
				}
			}
			// A slot's Tail leads nowhere.
			clear(j.slots)
			clear(j.fields)
			j.slots[d.Hash%slots].Tail, j.fields[f.Hash%slots].Tail = at, place
			isNoData(t, j.view(t), "A=1", api.ErrNone)
			isNoField(t, j.view(t), "A", api.ErrNone)
		}
	}
}

// P11.1: the hash is arena's: a journal that says it is keyed is asked by the
// key, by that of its own File.
func TestFindByTheKey(t *testing.T) {
	for _, keyed := range []bool{false, true} {
		j, is := bound(keyed, 1, 1, "A=1")
		isData(t, j.view(t), "A=1", is.payloads["A=1"])
		isField(t, j.view(t), "A", is.names["A"])
		j.h.Incompat ^= api.Keyed
		isNoData(t, j.view(t), "A=1", api.ErrNone)
		isNoField(t, j.view(t), "A", api.ErrNone)
		j.h.Incompat ^= api.Keyed
		j.h.File[15]++
		if keyed {
			isNoData(t, j.view(t), "A=1", api.ErrNone)
			isNoField(t, j.view(t), "A", api.ErrNone)
		} else {
			isData(t, j.view(t), "A=1", is.payloads["A=1"])
			isField(t, j.view(t), "A", is.names["A"])
		}
	}
}

// P11.1: a code that is met ahead of it is told, one behind it is not; without
// it, each is.
func TestFindAheadOfACode(t *testing.T) {
	for next, code := range map[uint64]int{8: api.ErrLoop, 272: api.ErrLoop, 1000: api.ErrType, 1001: api.ErrAlign} {
		j := begun(false, 1, 1)
		a, first := j.data("A=1")
		b, second := j.data("B=1")
		c, third := j.data("C=1")
		place, f := j.field("A")
		other, g := j.field("B")
		if j.end > 1000 {
			t.Fatalf("too much is laid: up to %d", j.end)
		}
		j.lay(make([]byte, 1000-j.end))
		j.lay(obj.Put(api.Tag, nil))
		j.slots[0].Head, j.fields[0].Head = a, place
		first.NextHash, second.NextHash, third.NextHash = b, next, 0
		f.NextHash, g.NextHash = other, next
		v := j.view(t)
		isData(t, v, "A=1", a)
		isData(t, v, "B=1", b)
		isNoData(t, v, "C=1", code)
		isNoData(t, v, "D=1", code)
		isField(t, v, "A", place)
		isField(t, v, "B", other)
		isNoField(t, v, "C", code)
		isNoBucket(t, v, api.DataTable, 0, code)
		isNoBucket(t, v, api.FieldTable, 0, code)
		second.NextHash, g.NextHash = c, c
		isData(t, j.view(t), "C=1", c)
		isNoField(t, j.view(t), "C", api.ErrLoop)
		first.NextHash, f.NextHash = a, place
		isData(t, j.view(t), "A=1", a)
		isNoData(t, j.view(t), "B=1", api.ErrLoop)
		isField(t, j.view(t), "A", place)
		isNoField(t, j.view(t), "B", api.ErrLoop)
		j.slots[0].Head, j.fields[0].Head = 8, 271
		isNoData(t, j.view(t), "A=1", api.ErrRange)
		isNoField(t, j.view(t), "A", api.ErrRange)
	}
}

// P11.1: the chain's end, at or beyond the journal's, is no code: ErrNone.
func TestFindUpToTheEnd(t *testing.T) {
	j := begun(false, 1, 1)
	a, d := j.data("A=1")
	place, f := j.field("A")
	j.slots[0].Head, j.fields[0].Head = a, place
	for _, next := range []uint64{0, j.end, j.end + 1, j.end + 8, 1 << 63, math.MaxUint64} {
		d.NextHash, f.NextHash = next, next
		isNoData(t, j.view(t), "B=1", api.ErrNone)
		isNoField(t, j.view(t), "B", api.ErrNone)
		isData(t, j.view(t), "A=1", a)
		isField(t, j.view(t), "A", place)
	}
	for _, head := range []uint64{0, j.end, j.end + 1, math.MaxUint64} {
		j.slots[0].Head, j.fields[0].Head = head, head
		isNoData(t, j.view(t), "A=1", api.ErrNone)
		isNoField(t, j.view(t), "A", api.ErrNone)
	}
	d.NextHash, f.NextHash = j.end-8, j.end-8
	j.slots[0].Head, j.fields[0].Head = a, place
	isNoData(t, j.view(t), "B=1", api.ErrRange)
	isNoField(t, j.view(t), "B", api.ErrRange)
}

// P11.1: each of arena's Table's codes of the fields' table; the data's own is
// not asked then.
func TestFindOfAWrongTable(t *testing.T) {
	for _, c := range []struct {
		at   int
		b    byte
		code int
	}{{304, api.DataTable, api.ErrType}, {304, 0, api.ErrType}, {305, 1, api.ErrFlags}, {312, 8, api.ErrSize},
		{312, 16, api.ErrSize}, {312, 24, api.ErrSize}, {312, 48, api.ErrCount}, {318, 1, api.ErrRange}} {
		j, is := bound(false, 1, 1, "A=1")
		b := j.bytes()
		b[c.at] = c.b
		v := opened(t, b)
		isNoField(t, v, "A", c.code)
		isNoField(t, v, "", c.code)
		isData(t, v, "A=1", is.payloads["A=1"])
		isNoBucket(t, v, api.FieldTable, 9, c.code)
	}
}

// P0.4: what is handed in is neither changed nor kept, nor is what stands
// behind it read.
func TestFindLeavesThePayload(t *testing.T) {
	j, is := bound(false, 1, 1, "A=1", "A=12")
	v := j.view(t)
	room := []byte("A=12")
	for range 2 {
		if at, code := FindData(v, room[:3]); at != is.payloads["A=1"] || code != api.Fine {
			t.Errorf("FindData: %d, %d", at, code)
		}
	}
	if string(room) != "A=12" {
		t.Errorf("FindData changed what was handed in: %q", room)
	}
	if _, code := FindData(v, nil); code != api.ErrNone {
		t.Errorf("FindData of nil: %d", code)
	}
	isData(t, v, "A=12", is.payloads["A=12"])
}

// P11.1, P11.2: journals whose places, tables and texts are spoilt in many
// ways, each call against the chapter's words.
func TestSpoiltJournals(t *testing.T) {
	names := []string{"A", "B", "C"}
	texts := []string{"A=1", "A=2", "B=1", "B=2", "C=1", "none"}
	seen := map[[2]int]int{}
	for seed := range uint64(4000) {
		v := opened(t, spoilt(seed, texts[:5]))
		for _, kind := range []int{api.DataTable, api.FieldTable} {
			for slot := range 3 {
				want, code := toldBucket(v, kind, slot)
				seen[[2]int{0, code}]++
				if got, is := Bucket(v, kind, slot); is != code || !slices.Equal(got, want) {
					t.Fatalf("seed %d: Bucket(%d, %d): %v, %d; want %v, %d", seed, kind, slot, got, is, want, code)
				}
			}
		}
		for _, p := range texts {
			want, code := toldFind(v, api.DataTable, p)
			seen[[2]int{1, code}]++
			if got, is := FindData(v, []byte(p)); is != code || got != want {
				t.Fatalf("seed %d: FindData(%q): %d, %d; want %d, %d", seed, p, got, is, want, code)
			}
		}
		for _, name := range names {
			want, code := toldFind(v, api.FieldTable, name)
			seen[[2]int{2, code}]++
			if got, is := FindField(v, name); is != code || got != want {
				t.Fatalf("seed %d: FindField(%q): %d, %d; want %d, %d", seed, name, got, is, want, code)
			}
			list, code := toldDatas(v, name)
			seen[[2]int{3, code}]++
			if got, is := Datas(v, name); is != code || !slices.Equal(got, list) {
				t.Fatalf("seed %d: Datas(%q): %v, %d; want %v, %d", seed, name, got, is, list, code)
			}
		}
	}
	for call := range 4 {
		for _, code := range []int{api.Fine, api.ErrLoop, api.ErrType, api.ErrAlign, api.ErrRange} {
			if seen[[2]int{call, code}] < 20 {
				t.Errorf("call %d told %d only %d times", call, code, seen[[2]int{call, code}])
			}
		}
	}
}

// spoilt answers the bytes of a right journal in which some of the places were
// changed, by a rule that goes by the seed.
func spoilt(seed uint64, texts []string) []byte {
	state := seed*0x9e3779b97f4a7c15 + 1
	below := func(n int) int {
		state = state*6364136223846793005 + 1442695040888963407
		return int(state >> 33 % uint64(n))
	}
	j, is := bound(below(2) == 1, 1+below(2), 1+below(2), texts...)
	var all []uint64
	for _, at := range is.payloads {
		all = append(all, at)
	}
	for _, at := range is.names {
		all = append(all, at)
	}
	slices.Sort(all)
	all = append(all, 0, 8, 272, j.end-8, j.end, j.end+8, all[2]+1, math.MaxUint64)
	for range 1 + below(4) {
		x, place := j.laid[below(len(j.laid))], all[below(len(all))]
		switch o := x.(type) {
		case *obj.Data:
			*[]*uint64{&o.NextHash, &o.NextField, &o.Hash}[below(3)] = place
		case *obj.Field:
			*[]*uint64{&o.NextHash, &o.Data, &o.Hash}[below(3)] = place
		}
	}
	if below(3) == 0 {
		j.slots[below(len(j.slots))].Head = all[below(len(all))]
	}
	if below(3) == 0 {
		j.fields[below(len(j.fields))].Head = all[below(len(all))]
	}
	return j.bytes()
}
