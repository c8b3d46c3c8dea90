package obj

import (
	"bytes"
	"slices"
	"testing"

	"diurnal/api"
)

// someData answers a Data whose numbers are all unlike, byte by byte.
func someData(payload []byte) Data {
	return Data{
		Hash: 0x1817161514131211, NextHash: 0x2827262524232221, NextField: 0x3837363534333231,
		Entry: 0x4847464544434241, Array: 0x5857565554535251, Count: 0x6867666564636261, Payload: payload,
	}
}

// someField answers a Field likewise.
func someField(payload []byte) Field {
	return Field{Hash: 0x9897969594939291, NextHash: 0xa8a7a6a5a4a3a2a1, Data: 0xb8b7b6b5b4b3b2b1, Payload: payload}
}

// dataLaid answers d as it stands in bytes, by the chapter's words.
func dataLaid(d Data) []byte {
	return laid(1, slices.Concat(eight(d.Hash), eight(d.NextHash), eight(d.NextField), eight(d.Entry), eight(d.Array), eight(d.Count), d.Payload))
}

// fieldLaid answers f likewise.
func fieldLaid(f Field) []byte {
	return laid(2, slices.Concat(eight(f.Hash), eight(f.NextHash), eight(f.Data), f.Payload))
}

// P7.2: the numbers in their order, eight bytes each, then the Payload: any
// bytes of any length, none too.
func TestPutLaysDataAndFields(t *testing.T) {
	for n := range 300 {
		if got := PutData(someData(wild(n))); !bytes.Equal(got, dataLaid(someData(wild(n)))) {
			t.Errorf("PutData with %d bytes: %x", n, got)
		}
		if got := PutField(someField(wild(n))); !bytes.Equal(got, fieldLaid(someField(wild(n)))) {
			t.Errorf("PutField with %d bytes: %x", n, got)
		}
	}
	for _, payload := range [][]byte{nil, {}, {0}, make([]byte, 9), []byte("A=b"), wild(65536)} {
		if got := PutData(Data{Payload: payload}); !bytes.Equal(got, dataLaid(Data{Payload: payload})) {
			t.Errorf("PutData with %d bytes and noughts: %x ..", len(payload), got[:64])
		}
		if got := PutField(Field{Payload: payload}); !bytes.Equal(got, fieldLaid(Field{Payload: payload})) {
			t.Errorf("PutField with %d bytes and noughts: %x ..", len(payload), got[:40])
		}
	}
}

// P7.2: an object of Data by its bytes, written out.
func TestPutDataByItsBytes(t *testing.T) {
	want := "\x01\x00\x00\x00\x00\x00\x00\x00\x43\x00\x00\x00\x00\x00\x00\x00" +
		"\x11\x12\x13\x14\x15\x16\x17\x18\x21\x22\x23\x24\x25\x26\x27\x28" +
		"\x31\x32\x33\x34\x35\x36\x37\x38\x41\x42\x43\x44\x45\x46\x47\x48" +
		"\x51\x52\x53\x54\x55\x56\x57\x58\x61\x62\x63\x64\x65\x66\x67\x68" +
		"A=b\x00\x00\x00\x00\x00"
	if got := PutData(someData([]byte("A=b"))); string(got) != want {
		t.Errorf("PutData: %x", got)
	}
	dataRead(t, []byte(want), 0, someData([]byte("A=b")))
}

// P7.2: an object of a Field by its bytes, written out.
func TestPutFieldByItsBytes(t *testing.T) {
	want := "\x02\x00\x00\x00\x00\x00\x00\x00\x29\x00\x00\x00\x00\x00\x00\x00" +
		"\x91\x92\x93\x94\x95\x96\x97\x98\xa1\xa2\xa3\xa4\xa5\xa6\xa7\xa8" +
		"\xb1\xb2\xb3\xb4\xb5\xb6\xb7\xb8A\x00\x00\x00\x00\x00\x00\x00"
	if got := PutField(someField([]byte("A"))); string(got) != want {
		t.Errorf("PutField: %x", got)
	}
	fieldRead(t, []byte(want), 0, someField([]byte("A")))
}

// P7.2: what is put is read, wherever it stands, others ahead and behind; where
// the bytes end with the Payload, too.
func TestReadOfDataAndFieldsThatArePut(t *testing.T) {
	for n := 1; n < 300; n++ {
		for _, ahead := range []int{0, 8, 272} {
			d := append(wild(ahead), PutData(someData(wild(n)))...)
			f := append(wild(ahead), PutField(someField(wild(n)))...)
			dataRead(t, d, uint64(ahead), someData(wild(n)))
			dataRead(t, d[:ahead+64+n], uint64(ahead), someData(wild(n)))
			dataRead(t, append(d, wild(9)...), uint64(ahead), someData(wild(n)))
			fieldRead(t, f, uint64(ahead), someField(wild(n)))
			fieldRead(t, f[:ahead+40+n], uint64(ahead), someField(wild(n)))
			fieldRead(t, append(f, wild(9)...), uint64(ahead), someField(wild(n)))
		}
	}
	for _, payload := range [][]byte{{0}, make([]byte, 9), wild(65536)} {
		dataRead(t, PutData(Data{Payload: payload}), 0, Data{Payload: payload})
		fieldRead(t, PutField(Field{Payload: payload}), 0, Field{Payload: payload})
	}
}

// P7.2: each number is any, and stands alone.
func TestReadOfAnyNumbers(t *testing.T) {
	p := []byte("A=b")
	for _, v := range greats() {
		for _, d := range []Data{
			{Hash: v, Payload: p}, {NextHash: v, Payload: p}, {NextField: v, Payload: p},
			{Entry: v, Payload: p}, {Array: v, Payload: p}, {Count: v, Payload: p},
		} {
			dataRead(t, PutData(d), 0, d)
			dataRead(t, dataLaid(d), 0, d)
		}
		for _, f := range []Field{{Hash: v, Payload: p}, {NextHash: v, Payload: p}, {Data: v, Payload: p}} {
			fieldRead(t, PutField(f), 0, f)
			fieldRead(t, fieldLaid(f), 0, f)
		}
	}
}

// P7.2: an object of another kind is ErrType, one without room for the numbers
// too.
func TestReadOfAnotherKind(t *testing.T) {
	for kind := api.Data; kind <= api.Tag; kind++ {
		for _, n := range []int{0, 1, 24, 25, 48, 49, 60} {
			b := append(wild(8), laid(byte(kind), wild(n))...)
			if kind != api.Data {
				dataRefused(t, b, 8, api.ErrType)
			}
			if kind != api.Field {
				fieldRefused(t, b, 8, api.ErrType)
			}
		}
	}
	dataRefused(t, PutField(someField(wild(60))), 0, api.ErrType)
	fieldRefused(t, PutData(someData(wild(60))), 0, api.ErrType)
}

// P7.2: without a byte of a Payload it is ErrSize, with numbers that are not
// all there too; bytes behind the object are none of its Payload.
func TestReadWithoutPayload(t *testing.T) {
	for n := range 49 {
		b := laid(api.Data, wild(n))
		dataRefused(t, b, 0, api.ErrSize)
		dataRefused(t, append(b, wild(60)...), 0, api.ErrSize)
		dataRefused(t, append(b, PutData(someData(wild(60)))...), 0, api.ErrSize)
	}
	for n := range 25 {
		b := laid(api.Field, wild(n))
		fieldRefused(t, b, 0, api.ErrSize)
		fieldRefused(t, append(b, wild(60)...), 0, api.ErrSize)
		fieldRefused(t, append(b, PutField(someField(wild(60)))...), 0, api.ErrSize)
	}
	dataRefused(t, PutData(someData(nil)), 0, api.ErrSize)
	fieldRefused(t, PutField(someField(nil)), 0, api.ErrSize)
	dataRead(t, PutData(someData([]byte{0})), 0, someData([]byte{0}))
	fieldRead(t, PutField(someField([]byte{0})), 0, someField([]byte{0}))
}

// P7.2: Size says where the Payload ends, not the bytes: those behind it may be
// any.
func TestPayloadEndsWithSize(t *testing.T) {
	for n := 1; n <= 60; n++ {
		dataRead(t, spoilt(PutData(someData(wild(60))), 8, byte(64+n)), 0, someData(wild(n)))
		fieldRead(t, spoilt(PutField(someField(wild(60))), 8, byte(40+n)), 0, someField(wild(n)))
	}
}

// P7.2: flags, a Size and bytes that are amiss have Read's code, ahead of the
// kind and of the Payload.
func TestReadersTellReadsCode(t *testing.T) {
	for kind := api.Data; kind <= api.Tag; kind++ {
		for _, n := range []int{0, 24, 25, 48, 49} {
			b := laid(byte(kind), wild(n))
			refused(t, b, 4, api.ErrAlign)
			refused(t, b[:8], 0, api.ErrRange)
			refused(t, spoilt(b, 0, byte(kind+8)), 0, api.ErrType)
			refused(t, spoilt(b, 1, 1), 0, api.ErrFlags)
			refused(t, spoilt(b, 8, 15), 0, api.ErrSize)
			refused(t, spoilt(b, 8, byte(len(b)+1)), 0, api.ErrRange)
		}
	}
}

// P0.4: what is handed in is not changed, and what lies behind its length
// neither read nor written.
func TestKindsLeaveSpareRoomAlone(t *testing.T) {
	for n := 1; n < 20; n++ {
		room := wild(60)
		if got := PutData(someData(room[:n])); !bytes.Equal(got, dataLaid(someData(wild(n)))) {
			t.Errorf("PutData with %d bytes and others behind: %x", n, got)
		}
		if got := PutField(someField(room[:n])); !bytes.Equal(got, fieldLaid(someField(wild(n)))) {
			t.Errorf("PutField with %d bytes and others behind: %x", n, got)
		}
		if !bytes.Equal(room, wild(60)) {
			t.Errorf("a Payload of %d bytes is changed", n)
		}
		d, f := PutData(someData(wild(n))), PutField(someField(wild(n)))
		dataRefused(t, d[:64+n-1], 0, api.ErrRange)
		fieldRefused(t, f[:40+n-1], 0, api.ErrRange)
		dataRead(t, d, 0, someData(wild(n)))
		fieldRead(t, f, 0, someField(wild(n)))
		if !bytes.Equal(d, dataLaid(someData(wild(n)))) || !bytes.Equal(f, fieldLaid(someField(wild(n)))) {
			t.Errorf("an object with %d bytes is changed by reading", n)
		}
	}
}

// P0.4: each list handed out is new memory, its spare room too.
func TestKindsShareNoMemory(t *testing.T) {
	calls := map[string]func(b []byte) []byte{
		"PutData":   func(b []byte) []byte { return PutData(someData(b)) },
		"PutField":  func(b []byte) []byte { return PutField(someField(b)) },
		"ReadData":  func(b []byte) []byte { d, _ := ReadData(b, 0); return d.Payload },
		"ReadField": func(b []byte) []byte { f, _ := ReadField(b, 0); return f.Payload },
	}
	for name, call := range calls {
		for n := 1; n < 70; n++ {
			whole := dataLaid(someData(wild(n)))
			if name == "ReadField" {
				whole = fieldLaid(someField(wild(n)))
			}
			b := bytes.Clone(whole)
			one, other := call(b), call(b)
			told := bytes.Clone(other)
			one = one[:cap(one)]
			for i := range one {
				one[i] = 0xee
			}
			if len(told) == 0 || !bytes.Equal(other, told) || !bytes.Equal(b, whole) {
				t.Errorf("%s of %d bytes: writing into an answer shows in %x, %x", name, n, other, b)
			}
			clear(b)
			if !bytes.Equal(other, told) {
				t.Errorf("%s of %d bytes: writing into the argument shows in %x", name, n, other)
			}
		}
	}
}
