package entry

import (
	"bytes"
	"math"
	"slices"
	"testing"

	"diurnal/api"
)

// P8.2: an array's object by its bytes, written out.
func TestPutArrayByItsBytes(t *testing.T) {
	want := "\x06\x00\x00\x00\x00\x00\x00\x00\x30\x00\x00\x00\x00\x00\x00\x00" +
		"\x71\x72\x73\x74\x75\x76\x77\x78\x11\x12\x13\x14\x15\x16\x17\x18" +
		"\x00\x00\x00\x00\x00\x00\x00\x00\x21\x22\x23\x24\x25\x26\x27\x28"
	a := someArray([]uint64{0x1817161514131211, 0, 0x2827262524232221})
	if got := PutArray(a); string(got) != want {
		t.Errorf("PutArray: %x", got)
	}
	arrayRead(t, []byte(want), 0, a)
}

// P8.2: what is put stands as the chapter says, and is read, wherever it
// stands, others ahead and behind; without items it is ErrSize.
func TestPutAndReadOfArrays(t *testing.T) {
	for n := range 70 {
		a := someArray(places(n))
		b := PutArray(a)
		if !bytes.Equal(b, arrayLaid(a)) {
			t.Errorf("PutArray of %d items: %x", n, b)
		}
		for _, ahead := range []int{0, 8, 272} {
			there := slices.Concat(wild(ahead), b, wild(n%20))
			if n == 0 {
				arrayRefused(t, there, uint64(ahead), api.ErrSize)
				continue
			}
			arrayRead(t, there, uint64(ahead), a)
		}
	}
	for _, n := range []int{255, 256, 257, 10000} {
		a := someArray(places(n))
		if b := PutArray(a); !bytes.Equal(b, arrayLaid(a)) {
			t.Errorf("PutArray of %d items: %x ..", n, b[:80])
		}
		arrayRead(t, PutArray(a), 0, a)
	}
	if b := PutArray(Array{}); !bytes.Equal(b, laid(6, make([]byte, 8))) {
		t.Errorf("PutArray of noughts: %x", b)
	}
}

// P8.2: Next and the items are any numbers, of any order, 0 and like ones too.
func TestReadOfAnyPlaces(t *testing.T) {
	for _, v := range greats() {
		for _, a := range []Array{{Next: v, Items: []uint64{0}}, {Items: []uint64{v}}, {Items: []uint64{v, v, 0, v}}, {Next: v, Items: greats()}} {
			if b := PutArray(a); !bytes.Equal(b, arrayLaid(a)) {
				t.Errorf("PutArray of %+v: %x", a, b)
			}
			arrayRead(t, arrayLaid(a), 0, a)
		}
	}
	a := Array{Items: make([]uint64, 256)}
	arrayRead(t, arrayLaid(a), 0, a)
}

// P8.2: items that are not one or more whole ones are ErrSize, a Next that is
// not all there too.
func TestReadArrayOfSizes(t *testing.T) {
	for n := range 170 {
		b := spoilt(arrayLaid(someArray(places(21))), 8, eights(uint64(16+n))...)
		if n < 16 || n%8 != 0 {
			arrayRefused(t, b, 0, api.ErrSize)
			arrayRefused(t, laid(api.Array, make([]byte, n)), 0, api.ErrSize)
			arrayRefused(t, append(laid(api.Array, wild(n)), b...), 0, api.ErrSize)
			continue
		}
		arrayRead(t, b, 0, someArray(places((n-8)/8)))
		arrayRead(t, laid(api.Array, make([]byte, n)), 0, Array{Items: make([]uint64, (n-8)/8)})
	}
}

// P8.2: a table's object by its bytes, written out, of both kinds.
func TestPutTableByItsBytes(t *testing.T) {
	for _, kind := range tables() {
		want := string([]byte{byte(kind)}) + "\x00\x00\x00\x00\x00\x00\x00\x30\x00\x00\x00\x00\x00\x00\x00" +
			"\x11\x12\x13\x14\x15\x16\x17\x18\x21\x22\x23\x24\x25\x26\x27\x28" +
			"\x31\x32\x33\x34\x35\x36\x37\x38\x41\x42\x43\x44\x45\x46\x47\x48"
		l := []Slot{{Head: 0x1817161514131211, Tail: 0x2827262524232221}, {Head: 0x3837363534333231, Tail: 0x4847464544434241}}
		if got := PutTable(kind, l); string(got) != want {
			t.Errorf("PutTable(%d): %x", kind, got)
		}
		tableRead(t, []byte(want), 0, kind, l)
	}
	if api.DataTable != 4 || api.FieldTable != 5 {
		t.Error("the kinds of tables are others")
	}
}

// P8.2: what is put stands as the chapter says, and is read, wherever it
// stands, others ahead and behind; without slots it is ErrSize.
func TestPutAndReadOfTables(t *testing.T) {
	for _, kind := range tables() {
		for _, n := range []int{0, 1, 2, 3, 7, 8, 9, 15, 16, 17, 31, 63, 64, 65, 256, 5000} {
			b := PutTable(kind, slots(n))
			if !bytes.Equal(b, tableLaid(kind, slots(n))) {
				t.Errorf("PutTable(%d) of %d slots: %d bytes", kind, n, len(b))
			}
			for _, ahead := range []int{0, 8, 272} {
				there := slices.Concat(wild(ahead), b, wild(n%20))
				if n == 0 {
					tableRefused(t, there, uint64(ahead), kind, api.ErrSize)
					continue
				}
				tableRead(t, there, uint64(ahead), kind, slots(n))
			}
		}
		if b := PutTable(kind, nil); !bytes.Equal(b, laid(byte(kind), nil)) {
			t.Errorf("PutTable(%d) of nothing: %x", kind, b)
		}
	}
}

// P8.2: Head and Tail are any numbers, and each stands alone.
func TestReadOfAnySlots(t *testing.T) {
	for _, kind := range tables() {
		for _, v := range greats() {
			for _, l := range [][]Slot{{{Head: v}}, {{Tail: v}}, {{}, {Head: v}, {}}, {{}, {Tail: v}, {}}, {{v, v}, {v, v}}} {
				if b := PutTable(kind, l); !bytes.Equal(b, tableLaid(kind, l)) {
					t.Errorf("PutTable(%d) of %+v: %x", kind, l, b)
				}
				tableRead(t, tableLaid(kind, l), 0, kind, l)
			}
		}
		tableRead(t, laid(byte(kind), make([]byte, 1024)), 0, kind, make([]Slot, 64))
	}
}

// P8.2: slots that are not one or more whole ones are ErrSize.
func TestReadTableOfSizes(t *testing.T) {
	for _, kind := range tables() {
		for n := range 170 {
			b := spoilt(tableLaid(kind, slots(11)), 8, eights(uint64(16+n))...)
			if n < 16 || n%16 != 0 {
				tableRefused(t, b, 0, kind, api.ErrSize)
				tableRefused(t, laid(byte(kind), make([]byte, n)), 0, kind, api.ErrSize)
				tableRefused(t, append(laid(byte(kind), wild(n)), b...), 0, kind, api.ErrSize)
				continue
			}
			tableRead(t, b, 0, kind, slots(n/16))
		}
	}
}

// P8.2: of a kind that is no table's, PutTable answers nothing.
func TestPutTableOfNoTable(t *testing.T) {
	for _, kind := range noTables() {
		for _, n := range []int{0, 1, 2, 64} {
			if b := PutTable(kind, slots(n)); len(b) > 0 {
				t.Errorf("PutTable(%d) of %d slots: %x", kind, n, b)
			}
		}
	}
}

// P8.2: of a kind that is no table's, ReadTable tells ErrArg, whatever else is
// amiss, and where an object of that kind stands there, too.
func TestReadTableOfNoTable(t *testing.T) {
	for _, kind := range noTables() {
		for _, b := range append(whole(), nil, []byte{}, wild(15), wild(64), laid(byte(kind), wild(32)), laid(byte(kind), nil)) {
			for _, at := range []uint64{0, 1, 8, 4096, math.MaxUint64 - 7, math.MaxUint64} {
				tableRefused(t, b, at, kind, api.ErrArg)
			}
		}
	}
}

// P0.4: what is handed in is not changed, and what lies behind its length
// neither read nor written.
func TestArraysLeaveSpareRoomAlone(t *testing.T) {
	for n := range 12 {
		room, rows := places(12), slots(12)
		if got := PutArray(someArray(room[:n])); !bytes.Equal(got, arrayLaid(someArray(places(n)))) {
			t.Errorf("PutArray of %d items with others behind: %x", n, got)
		}
		for _, kind := range tables() {
			if got := PutTable(kind, rows[:n]); !bytes.Equal(got, tableLaid(kind, slots(n))) {
				t.Errorf("PutTable(%d) of %d slots with others behind: %x", kind, n, got)
			}
		}
		if !slices.Equal(room, places(12)) || !slices.Equal(rows, slots(12)) {
			t.Errorf("PutArray or PutTable of %d changed what it was handed", n)
		}
	}
}

// P0.4: each list handed out is new memory, its spare room too.
func TestArraysShareNoMemory(t *testing.T) {
	for n := 1; n < 40; n++ {
		l, rows := places(n), slots(n)
		calls := []func() []byte{
			func() []byte { return PutArray(someArray(l)) },
			func() []byte { return PutTable(api.DataTable, rows) },
		}
		wants := [][]byte{arrayLaid(someArray(places(n))), tableLaid(api.DataTable, slots(n))}
		for i, call := range calls {
			one, other := call(), call()
			one = one[:cap(one)]
			for k := range one {
				one[k] = 0xee
			}
			clear(l)
			clear(rows)
			if !bytes.Equal(other, wants[i]) {
				t.Errorf("writing beside an object of %d shows in %x", n, other)
			}
			l, rows = places(n), slots(n)
		}
	}
}

// P0.4: each list that is read is new memory, its spare room too.
func TestReadArraysShareNoMemory(t *testing.T) {
	for n := 1; n < 40; n++ {
		b := slices.Concat(arrayLaid(someArray(places(n))), tableLaid(api.FieldTable, slots(n)))
		full := bytes.Clone(b)
		at := uint64(24 + 8*n)
		left, _ := ReadArray(b, 0)
		right, _ := ReadArray(b, 0)
		one, _ := ReadTable(b, at, api.FieldTable)
		other, _ := ReadTable(b, at, api.FieldTable)
		clear(left.Items[:cap(left.Items)])
		clear(one[:cap(one)])
		if !bytes.Equal(b, full) {
			t.Errorf("writing into %d that were read shows in the bytes", n)
		}
		clear(b)
		if !sameArray(right, someArray(places(n))) || !slices.Equal(other, slots(n)) {
			t.Errorf("writing beside %d that were read shows in %+v, %+v", n, right, other)
		}
	}
}
