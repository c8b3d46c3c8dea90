package writer

import (
	"reflect"
	"strings"
	"testing"

	"diurnal/api"
	"diurnal/arena"
	"diurnal/chain"
	"diurnal/link"
	"diurnal/simfs"
)

// reading is what a file tells by the calls that the chapter names: its
// entries, and of each of their payloads where it is, and who has it.
type reading struct {
	entries []uint64
	records []api.Record
	found   map[string]uint64
	of      map[string][]uint64
}

// read answers what b tells, or which call does not tell Fine.
func read(b []byte) (reading, string) {
	r := reading{found: map[string]uint64{}, of: map[string][]uint64{}}
	v, code := arena.Open(b)
	if code != api.Fine {
		return r, "Open"
	}
	if r.entries, code = link.Entries(v); code != api.Fine {
		return r, "Entries"
	}
	for _, at := range r.entries {
		x, code := v.Record(at)
		if code != api.Fine {
			return r, "Record"
		}
		r.records = append(r.records, x)
		for _, p := range x.Fields {
			s := p.Name + "=" + p.Value
			if r.found[s] != 0 {
				continue
			}
			if r.found[s], code = chain.FindData(v, []byte(s)); code != api.Fine {
				return r, "FindData"
			}
			if r.of[s], code = link.Of(v, r.found[s]); code != api.Fine {
				return r, "Of"
			}
		}
	}
	return r, ""
}

// mustRead answers what b tells, where each call tells Fine.
func mustRead(t *testing.T, b []byte) reading {
	t.Helper()
	r, call := read(b)
	if call != "" {
		t.Fatalf("%s of %d bytes does not tell Fine", call, len(b))
	}
	return r
}

// cut is a journal with some things to commit.
type cut struct {
	fs       *simfs.FS
	w        *Writer
	old, new reading
	// code is what the last call told, sectors how many there are at most.
	code, sectors int
}

// cutAt makes a journal that goes by the seed, the same one each time, with
// entries that were committed and others that were not; and commits these, or
// archives them, till power goes.
func cutAt(t *testing.T, seed uint64, fuse int) cut {
	t.Helper()
	throw := dice(seed)
	c := conf([]int{1, 2, 9, 14, 15, 64}[throw(6)], []int{1, 2, 7, 64}[throw(4)])
	c.Keyed = throw(2) == 0
	fs, w := begun(t, c, uint64(throw(3)))
	// Another file of which sectors may go, too, has its own of keep.
	fs.Make("other")
	fs.SyncDir()
	values := 1 + throw(6)
	for range throw(4) {
		grow(w, throw, values)
		tells(t, "Commit", w.Commit(), api.Fine)
	}
	x := cut{fs: fs, w: w, old: mustRead(t, w.Image())}
	grow(w, throw, values)
	x.new = mustRead(t, w.Image())
	x.sectors = (len(w.Image()) + 511) / 512
	fs.Fuse(fuse)
	if throw(3) == 0 {
		x.code = w.Archive()
	} else {
		x.code = w.Commit()
	}
	return x
}

// grow appends some entries: few, or as many as fill arrays.
func grow(w *Writer, throw func(n int) int, values int) {
	for range throw([]int{2, 8, 30}[throw(3)]) {
		l := pairs("A")
		for _, name := range []string{"B", "C", "D"} {
			if throw(2) == 0 {
				l = append(l, pairs(name+strings.Repeat("x", throw(values)*throw(30)))...)
			}
		}
		w.Append(l, uint64(throw(1000)), uint64(throw(1000)), boot(throw(4)))
	}
}

// keeps answers which sectors may stay, of so many that there are: all ways of
// few, of many none, all, each one alone, all but each one, those up to each
// one, those from each one on, and some thrown ones.
func keeps(n int, throw func(n int) int) [][]bool {
	var l [][]bool
	if n <= 8 {
		for v := range 1 << n {
			l = append(l, bits(v, n))
		}
		return l
	}
	of := func(is func(i int) bool) {
		keep := make([]bool, n)
		for i := range keep {
			keep[i] = is(i)
		}
		l = append(l, keep)
	}
	of(func(int) bool { return false })
	of(func(int) bool { return true })
	for k := range n {
		of(func(i int) bool { return i == k })
		of(func(i int) bool { return i != k })
		of(func(i int) bool { return i < k })
		of(func(i int) bool { return i >= k })
	}
	for range 60 {
		of(func(int) bool { return throw(2) == 0 })
	}
	return l
}

// P13.4: wherever power goes in a Commit or an Archive, and whatever sectors
// stay, the file reads as ahead of it or as behind it; where it was Fine, as
// behind it.
func TestWherePowerGoes(t *testing.T) {
	seen := map[string]int{}
	for seed := range uint64(50) {
		for fuse := 0; ; fuse++ {
			x := cutAt(t, seed, fuse)
			if x.code != api.Fine && x.code != api.ErrOff || fuse > 1000 {
				t.Fatalf("seed %d, fuse %d: %d", seed, fuse, x.code)
			}
			for _, keep := range keeps(x.sectors, dice(seed+1000)) {
				fs := x.fs.Copy()
				fs.Crash(keep, len(keep)%2)
				b, _ := fs.All("j")
				seen[x.told(t, b, seed, fuse, keep)]++
			}
			if x.code == api.Fine {
				break
			}
		}
	}
	for _, what := range []string{"old", "new", "both"} {
		if seen[what] < 100 {
			t.Errorf("the file read as the %s one only %d times", what, seen[what])
		}
	}
}

// told answers which one of both b reads as.
func (x cut) told(t *testing.T, b []byte, seed uint64, fuse int, keep []bool) string {
	t.Helper()
	r, call := read(b)
	isOld, isNew := reflect.DeepEqual(r, x.old), reflect.DeepEqual(r, x.new)
	switch {
	case call != "":
		t.Fatalf("seed %d, fuse %d, keep %v: %s does not tell Fine", seed, fuse, keep, call)
	case isOld && isNew:
		return "both"
	case isNew:
		return "new"
	case isOld && x.code != api.Fine:
		return "old"
	}
	t.Fatalf("seed %d, fuse %d, keep %v: of %d entries, ahead %d, behind %d; %d", seed, fuse, keep, len(r.entries), len(x.old.entries), len(x.new.entries), x.code)
	return ""
}

// P13.4: a Commit that told Fine is whole, whatever sectors stay.
func TestWhatIsCommittedIsSafe(t *testing.T) {
	for seed := range uint64(60) {
		x := cutAt(t, seed, -1)
		for _, keep := range [][]bool{nil, bits(0x55555555, 64), bits(-1, 64)} {
			fs := x.fs.Copy()
			fs.Crash(keep, 1)
			has(t, fs, "j", x.w.Image())
		}
	}
}

// P13.4: so it is, too, behind a Rename, whether that stays or not, and where
// the file's name was another one.
func TestWherePowerGoesBehindARename(t *testing.T) {
	for fuse := range 10 {
		for _, dirs := range []int{0, 1} {
			fs, w := begun(t, conf(2, 2), 0)
			fs.SyncDir()
			for range 9 {
				appended(t, w, "A1", "B2")
			}
			tells(t, "Commit", w.Commit(), api.Fine)
			tells(t, "Rename", w.Rename("k"), api.Fine)
			x := cut{fs: fs, w: w, old: mustRead(t, w.Image())}
			for range 9 {
				appended(t, w, "A1", "C3")
			}
			x.new = mustRead(t, w.Image())
			x.sectors = (len(w.Image()) + 511) / 512
			fs.Fuse(fuse)
			x.code = w.Commit()
			for _, keep := range keeps(x.sectors, dice(uint64(fuse))) {
				fs := x.fs.Copy()
				fs.Crash(keep, dirs)
				b, code := fs.All([]string{"j", "k"}[dirs])
				tells(t, "All", code, api.Fine)
				x.told(t, b, 0, fuse, keep)
			}
		}
	}
}
