package writer

import (
	"bytes"
	"math"
	"strconv"
	"strings"
	"testing"

	"diurnal/api"
	"diurnal/arena"
	"diurnal/chain"
	"diurnal/head"
	"diurnal/link"
)

// P13.1: a new journal's file: its head, each part of it, and empty tables.
func TestCreate(t *testing.T) {
	fs, w := begun(t, conf(3, 2), 7)
	b, code := fs.All("j")
	if code != api.Fine || len(b) != 384 {
		t.Fatalf("the file has %d bytes, %d", len(b), code)
	}
	want := head.Head{Compat: 2, State: api.Online, File: api.ID{1, 2, 3}, Machine: api.ID{4}, Seq: api.ID{5, 6},
		Size: 272, Arena: 112, DataTable: 288, DataSize: 48, FieldTable: 352, FieldSize: 32,
		TailObject: 336, Objects: 2, TailSeq: 7}
	if h, code := head.Read(b); code != api.Fine || h != want {
		t.Errorf("the head is %+v, %d", h, code)
	}
	rest := make([]byte, 112)
	rest[0], rest[8], rest[64], rest[72] = api.DataTable, 64, api.FieldTable, 48
	if !bytes.Equal(b[272:], rest) {
		t.Errorf("behind the head stands %x", b[272:])
	}
	if !bytes.Equal(b, w.Image()) || w.Tail() != 7 || w.Waiting() != 0 {
		t.Errorf("Image of %d bytes, Tail %d, Waiting %d", len(w.Image()), w.Tail(), w.Waiting())
	}
}

// P13.1: of each number of slots, keyed or not, behind any number.
func TestCreateOfEachSize(t *testing.T) {
	for _, slots := range [][2]int{{1, 1}, {1, 64}, {64, 1}, {64, 64}, {13, 2}, {14, 2}, {15, 15}, {2, 3}} {
		for _, keyed := range []bool{false, true} {
			for _, after := range []uint64{0, 1, 1 << 63, math.MaxUint64} {
				c := conf(slots[0], slots[1])
				c.Keyed = keyed
				fs, w := begun(t, c, after)
				want := plainly(c, after).bytes(api.Online)
				has(t, fs, "j", want)
				if !bytes.Equal(w.Image(), want) || w.Tail() != after {
					t.Errorf("slots %v, keyed %v, after %d: another image, Tail %d", slots, keyed, after, w.Tail())
				}
			}
		}
	}
}

// P13.1: what the readers tell of a new journal: nothing is there.
func TestANewJournalHasNothing(t *testing.T) {
	_, w := begun(t, conf(5, 4), 9)
	v := opened(t, w.Image())
	if l, code := link.Entries(v); len(l) != 0 || code != api.Fine {
		t.Errorf("Entries: %v, %d", l, code)
	}
	for kind, slots := range map[int]int{api.DataTable: 5, api.FieldTable: 4} {
		for i := range slots + 1 {
			want := api.Fine
			if i == slots {
				want = api.ErrRange
			}
			if l, code := chain.Bucket(v, kind, i); len(l) != 0 || code != want {
				t.Errorf("Bucket(%d, %d): %v, %d", kind, i, l, code)
			}
		}
	}
}

// P13.1: the file is synced, the directory is not.
func TestCreateSyncsTheFileAlone(t *testing.T) {
	fs, w := begun(t, conf(64, 64), 0)
	isSafe(t, fs, "j", w.Image())
	fs.Crash(nil, 0)
	if l := fs.Names(); len(l) != 0 {
		t.Errorf("a crash leaves %q", l)
	}
}

// P13.1: ErrArg of each number that may not be; the bounds themselves may.
func TestCreateOfWhatMayNotBe(t *testing.T) {
	for _, n := range []int{math.MinInt, -1, 0, 65, 1 << 32, math.MaxInt} {
		isNotMade(t, Config{DataSlots: n, FieldSlots: 1, Most: 4096})
		isNotMade(t, Config{DataSlots: 1, FieldSlots: n, Most: 4096})
	}
	for _, n := range []int{math.MinInt, -1, 0, 4095, 32769, 1<<32 + 4096, math.MaxInt} {
		isNotMade(t, Config{DataSlots: 1, FieldSlots: 1, Most: n})
	}
	isNotMade(t, Config{})
	for _, c := range []Config{{DataSlots: 1, FieldSlots: 64, Most: 4096}, {DataSlots: 64, FieldSlots: 1, Most: 32768}} {
		begun(t, c, 0)
	}
}

// isNotMade tells where a journal is made with c, or not with ErrArg: ahead of
// all else.
func isNotMade(t *testing.T, c Config) {
	t.Helper()
	fs := empty(t, api.MinRoom)
	for _, free := range []int{api.MinRoom, 0} {
		filled(t, fs, free)
		n := len(fs.Names())
		for _, name := range []string{"j", "", "filler0"} {
			if w, code := Create(fs, name, c, 0); w != nil || code != api.ErrArg || len(fs.Names()) != n {
				t.Errorf("Create with %+v: %v, %d", c, w, code)
			}
		}
	}
	fs.Fuse(0)
	fs.SyncDir()
	if w, code := Create(fs, "j", c, 0); w != nil || code != api.ErrArg {
		t.Errorf("Create with %+v without power: %v, %d", c, w, code)
	}
}

// P13.1: ErrOff without power, ahead of ErrFull and of simfs' ErrArg.
func TestCreateWithoutPower(t *testing.T) {
	for _, name := range []string{"j", "", "filler0"} {
		fs := empty(t, api.MinRoom)
		filled(t, fs, 0)
		fs.Fuse(0)
		fs.SyncDir()
		if w, code := Create(fs, name, conf(1, 1), 0); w != nil || code != api.ErrOff {
			t.Errorf("Create of %q: %v, %d", name, w, code)
		}
	}
}

// P13.1: ErrFull where the image has no room, to the byte, ahead of simfs'
// codes; no file is made then.
func TestCreateWithoutRoom(t *testing.T) {
	for _, slots := range [][2]int{{1, 1}, {64, 64}, {20, 1}} {
		size := int(plainly(conf(slots[0], slots[1]), 0).end)
		for _, name := range []string{"j", "", "a b", strings.Repeat("j", 97), "filler0"} {
			fs := empty(t, api.MinRoom)
			filled(t, fs, size-1)
			if w, code := Create(fs, name, conf(slots[0], slots[1]), 0); w != nil || code != api.ErrFull || len(fs.Names()) != 1 {
				t.Errorf("Create of %q with room for %d bytes of %d: %v, %d", name, size-1, size, w, code)
			}
		}
		fs := empty(t, api.MinRoom)
		filled(t, fs, size)
		w, code := Create(fs, "j", conf(slots[0], slots[1]), 0)
		if code != api.Fine || fs.Free() != 0 {
			t.Fatalf("Create with room for %d bytes: %d, %d are left", size, code, fs.Free())
		}
		has(t, fs, "j", w.Image())
	}
}

// P13.1: what simfs tells of making the file: ErrArg, ErrExist, ErrFull; what
// was there stays.
func TestCreateOfAWrongFile(t *testing.T) {
	fs := empty(t, api.MaxRoom)
	for _, name := range []string{"", "a b", "\x7f", strings.Repeat("j", 97)} {
		if w, code := Create(fs, name, conf(1, 1), 0); w != nil || code != api.ErrArg {
			t.Errorf("Create of %q: %v, %d", name, w, code)
		}
	}
	for i := range api.MaxFiles {
		if code := fs.Make(strconv.Itoa(i)); code != api.Fine {
			t.Fatal("Make", code)
		}
	}
	fs.Write("3", 0, []byte("there"))
	if w, code := Create(fs, "3", conf(1, 1), 0); w != nil || code != api.ErrExist {
		t.Errorf("Create of what is there: %v, %d", w, code)
	}
	has(t, fs, "3", []byte("there"))
	if w, code := Create(fs, "j", conf(1, 1), 0); w != nil || code != api.ErrFull || len(fs.Names()) != api.MaxFiles {
		t.Errorf("Create of one file too many: %v, %d", w, code)
	}
	fs.Drop("4")
	if w, code := Create(fs, strings.Repeat("j", 96), conf(1, 1), 0); w == nil || code != api.Fine {
		t.Errorf("Create of the last file: %v, %d", w, code)
	}
}

// P13.1: where power goes meanwhile: ErrOff, and no writer; a crash leaves no
// journal, or a new one that is whole.
func TestCreateWherePowerGoes(t *testing.T) {
	for fuse := range 100 {
		fs := empty(t, api.MaxRoom)
		fs.Fuse(fuse)
		w, code := Create(fs, "j", conf(64, 64), 5)
		if code == api.Fine {
			if fuse == 0 || w == nil {
				t.Errorf("fuse %d: %v", fuse, w)
			}
			return
		}
		if w != nil || code != api.ErrOff || !fs.Off() {
			t.Fatalf("fuse %d: %v, %d", fuse, w, code)
		}
		want := plainly(conf(64, 64), 5).bytes(api.Online)
		for keep := range 32 {
			other := fs.Copy()
			other.Crash(bits(keep, 5), 1)
			if b, code := other.All("j"); code == api.Fine && !bytes.Equal(b, want) {
				if _, code := arena.Open(b); code == api.Fine {
					t.Errorf("fuse %d, keep %x: %d bytes are a journal", fuse, keep, len(b))
				}
			}
		}
	}
	t.Error("Create has no end")
}

// bits answers the n lowest bits of v, the lowest first.
func bits(v, n int) []bool {
	l := make([]bool, n)
	for i := range l {
		l[i] = v>>i&1 == 1
	}
	return l
}
