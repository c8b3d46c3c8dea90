package sect

import (
	"bytes"
	"math"
	"testing"

	"diurnal/api"
)

// wild answers bytes of which none is 0, no two neighbours are like, nor two
// sectors.
func wild(n int) []byte {
	b := make([]byte, n)
	for i := range b {
		b[i] = byte((i*0x9d+i/512*0x25)%255) + 1
	}
	return b
}

// written answers a new file of those bytes, none of them safe.
func written(t *testing.T, b []byte) *File {
	t.Helper()
	f := New()
	wrote(t, f, 0, b)
	return f
}

// wrote tells where f does not take b at the place at.
func wrote(t *testing.T, f *File, at int, b []byte) {
	t.Helper()
	if code := f.Write(at, b); code != api.Fine {
		t.Fatalf("Write of %d bytes at %d: %d", len(b), at, code)
	}
}

// has tells where f has other bytes than b.
func has(t *testing.T, f *File, b []byte) {
	t.Helper()
	if got := f.All(); f.Len() != len(b) || !bytes.Equal(got, b) {
		t.Errorf("Len %d, All of %d bytes, like to the %d that are wanted up to %d", f.Len(), len(got), len(b), alike(got, b))
	}
}

// safely tells where other bytes than b are safe in f.
func safely(t *testing.T, f *File, b []byte) {
	t.Helper()
	if got := f.Safe(); !bytes.Equal(got, b) {
		t.Errorf("Safe of %d bytes, like to the %d that are wanted up to %d", len(got), len(b), alike(got, b))
	}
}

// alike answers how many bytes a and b begin with that are the same.
func alike(a, b []byte) int {
	n := 0
	for n < len(a) && n < len(b) && a[n] == b[n] {
		n++
	}
	return n
}

// with answers b as it is when part stands in it at the place at.
func with(b []byte, at int, part []byte) []byte {
	out := make([]byte, max(len(b), at+len(part)))
	copy(out, b)
	copy(out[at:], part)
	return out
}

// P5.1: a new file has no bytes.
func TestNewFileHasNothing(t *testing.T) {
	f := New()
	has(t, f, nil)
	if b, code := f.Read(0, 0); code != api.Fine || len(b) > 0 {
		t.Errorf("Read of nothing in a new file: %x, %d", b, code)
	}
	if _, code := f.Read(0, 1); code != api.ErrRange {
		t.Errorf("Read of a byte in a new file: %d", code)
	}
}

// P5.1: what is written stands there, over what stood there, and beyond the
// end; all else stays.
func TestWriteAnywhere(t *testing.T) {
	for _, n := range []int{0, 1, 7, 511, 512, 513, 1024, 1500, 32768} {
		for _, at := range []int{0, 1, 6, 7, 8, 510, 511, 512, 513, 1000, 1024, 1500, 2048, 32000} {
			for _, m := range []int{1, 2, 511, 512, 513, 700} {
				part := bytes.Repeat([]byte{0xee}, m)
				f := written(t, wild(n))
				wrote(t, f, at, part)
				has(t, f, with(wild(n), at, part))
			}
		}
	}
}

// P5.1: what lies between the end and the place is 0, also where bytes stood
// that a crash took.
func TestWriteBeyondTheEnd(t *testing.T) {
	f := New()
	wrote(t, f, 3, []byte("abc"))
	has(t, f, []byte("\x00\x00\x00abc"))
	wrote(t, f, 8, []byte{0xff})
	has(t, f, []byte("\x00\x00\x00abc\x00\x00\xff"))
	wrote(t, f, 32767, []byte{1})
	has(t, f, with([]byte("\x00\x00\x00abc\x00\x00\xff"), 32767, []byte{1}))

	f = written(t, wild(10))
	f.Sync()
	wrote(t, f, 0, bytes.Repeat([]byte{0xff}, 3000))
	f.Crash(nil)
	wrote(t, f, 2999, []byte{7})
	has(t, f, with(wild(10), 2999, []byte{7}))
}

// P5.1: bytes of 0 are bytes.
func TestWriteOfNoughts(t *testing.T) {
	f := written(t, make([]byte, 5))
	has(t, f, make([]byte, 5))
	wrote(t, f, 4, make([]byte, 600))
	has(t, f, make([]byte, 604))
	f = written(t, wild(600))
	wrote(t, f, 100, make([]byte, 450))
	has(t, f, with(wild(600), 100, make([]byte, 450)))
}

// P5.1: nothing, wherever it is written, leaves the file as it is.
func TestWriteOfNothing(t *testing.T) {
	for _, n := range []int{0, 1, 512, 600, 32768} {
		f := written(t, wild(n))
		for _, at := range []int{0, 1, 5, 599, 600, 601, 32767, 32768} {
			wrote(t, f, at, nil)
			wrote(t, f, at, []byte{})
			wrote(t, f, at, wild(3)[:0])
			has(t, f, wild(n))
		}
	}
}

// P5.1: the codes of Write, and that the file stays as it is.
func TestWriteOfWhatMayNotBe(t *testing.T) {
	for _, n := range []int{0, 5, 32768} {
		f := written(t, wild(n))
		for _, c := range []struct{ at, n, code int }{
			{-1, 0, api.ErrArg}, {-1, 1, api.ErrArg}, {-1, 2, api.ErrArg}, {-5, 32768, api.ErrArg}, {-1, 32769, api.ErrArg},
			{-1, 32770, api.ErrArg}, {math.MinInt, 0, api.ErrArg}, {math.MinInt, 1, api.ErrArg}, {math.MinInt, 40000, api.ErrArg},
			{32768, 1, api.ErrFull}, {32767, 2, api.ErrFull}, {1, 32768, api.ErrFull}, {0, 32769, api.ErrFull}, {0, 100000, api.ErrFull},
			{32769, 0, api.ErrFull}, {32769, 1, api.ErrFull}, {40000, 0, api.ErrFull}, {math.MaxInt32, 0, api.ErrFull},
			{math.MaxInt, 0, api.ErrFull}, {math.MaxInt, 1, api.ErrFull}, {math.MaxInt - 5, 6, api.ErrFull}, {math.MaxInt - 5, 40000, api.ErrFull},
		} {
			if code := f.Write(c.at, make([]byte, c.n)); code != c.code {
				t.Errorf("Write of %d bytes at %d: %d; want %d", c.n, c.at, code, c.code)
			}
			has(t, f, wild(n))
			safely(t, f, nil)
		}
	}
}

// P5.1: a file may have 32768 bytes, written in one or in many.
func TestWriteUpToTheLimit(t *testing.T) {
	b := wild(32768)
	has(t, written(t, b), b)
	f := New()
	for at := 32767; at >= 0; at-- {
		wrote(t, f, at, b[at:at+1])
	}
	has(t, f, b)
	f = New()
	for at := 0; at < 32768; at += 8 {
		wrote(t, f, at, b[at:at+8])
	}
	has(t, f, b)
	if code := f.Write(32768, []byte{1}); code != api.ErrFull {
		t.Errorf("Write behind the limit: %d", code)
	}
}

// P5.1: all of a file, piece by piece, and just what is beyond the end.
func TestReadOfEachPiece(t *testing.T) {
	f := written(t, wild(40))
	for at := range 50 {
		for n := range 50 {
			b, code := f.Read(at, n)
			if at+n > 40 && (code != api.ErrRange || len(b) > 0) {
				t.Errorf("Read of %d bytes at %d: %x, %d", n, at, b, code)
			}
			if at+n <= 40 && (code != api.Fine || !bytes.Equal(b, wild(40)[at:at+n])) {
				t.Errorf("Read of %d bytes at %d: %x, %d", n, at, b, code)
			}
		}
	}
}

// P5.1: Read over the borders of sectors, and of the greatest file.
func TestReadOverBorders(t *testing.T) {
	for _, n := range []int{511, 512, 513, 1024, 32767, 32768} {
		f := written(t, wild(n))
		for _, c := range [][2]int{{0, n}, {0, n - 1}, {1, n - 1}, {n - 1, 1}, {n, 0}, {500, n - 500}, {510, 1}} {
			if b, code := f.Read(c[0], c[1]); code != api.Fine || !bytes.Equal(b, wild(n)[c[0]:c[0]+c[1]]) {
				t.Errorf("Read of %d bytes at %d of %d: %d bytes, %d", c[1], c[0], n, len(b), code)
			}
		}
	}
}

// P5.1: the codes of Read, ErrArg ahead of ErrRange.
func TestReadOfWhatIsNotThere(t *testing.T) {
	f := written(t, wild(6))
	for _, c := range []struct{ at, n, code int }{
		{-1, 0, api.ErrArg}, {-1, 1, api.ErrArg}, {-1, 7, api.ErrArg}, {-1, 8, api.ErrArg}, {0, -1, api.ErrArg}, {3, -1, api.ErrArg}, {3, -3, api.ErrArg},
		{-1, -1, api.ErrArg}, {7, -1, api.ErrArg}, {100, -50, api.ErrArg}, {-50, 100, api.ErrArg}, {-100, 50, api.ErrArg},
		{math.MinInt, 0, api.ErrArg}, {0, math.MinInt, api.ErrArg}, {math.MinInt, math.MinInt, api.ErrArg}, {math.MaxInt, math.MinInt, api.ErrArg}, {math.MinInt, math.MaxInt, api.ErrArg},
		{7, 0, api.ErrRange}, {6, 1, api.ErrRange}, {5, 2, api.ErrRange}, {0, 7, api.ErrRange}, {512, 0, api.ErrRange},
		{math.MaxInt, 0, api.ErrRange}, {0, math.MaxInt, api.ErrRange}, {math.MaxInt, 1, api.ErrRange}, {1, math.MaxInt, api.ErrRange},
		{math.MaxInt, math.MaxInt, api.ErrRange}, {6, math.MaxInt - 2, api.ErrRange}, {math.MaxInt - 2, 6, api.ErrRange},
	} {
		if b, code := f.Read(c.at, c.n); code != c.code || len(b) > 0 {
			t.Errorf("Read of %d bytes at %d: %x, %d; want %d", c.n, c.at, b, code, c.code)
		}
	}
	has(t, f, wild(6))
}

// P0.4: what is handed in is neither changed nor kept, and what lies behind
// its length neither read nor written.
func TestWriteKeepsNothing(t *testing.T) {
	for _, n := range []int{1, 5, 512, 600} {
		room := wild(1000)
		f := New()
		wrote(t, f, 0, room[:n])
		has(t, f, wild(n))
		wrote(t, f, n, room[:3])
		if !bytes.Equal(room, wild(1000)) {
			t.Errorf("Write of %d bytes changed what it was handed", n)
		}
		clear(room)
		has(t, f, append(wild(n), wild(3)...))
	}
}

// P0.4: each list handed out is new memory, its spare room too.
func TestAnswersShareNoMemory(t *testing.T) {
	read := func(f *File) []byte { b, _ := f.Read(2, 500); return b }
	for name, call := range map[string]func(f *File) []byte{"All": (*File).All, "Safe": (*File).Safe, "Read": read} {
		f := written(t, wild(600))
		f.Sync()
		wrote(t, f, 600, wild(3))
		one, other := call(f), call(f)
		told := bytes.Clone(other)
		clear(one[:cap(one)])
		if !bytes.Equal(other, told) || !bytes.Equal(call(f), told) {
			t.Errorf("writing into an answer of %s shows", name)
		}
		has(t, f, append(wild(600), wild(3)...))
		safely(t, f, wild(600))
		wrote(t, f, 0, make([]byte, 700))
		f.Sync()
		if !bytes.Equal(other, told) {
			t.Errorf("writing into the file shows in an answer of %s", name)
		}
	}
}
