package check

import (
	"strings"
	"testing"

	"diurnal/api"
	"diurnal/simfs"
	"diurnal/writer"
)

// isRight tells where Check of these bytes finds anything.
func isRight(t *testing.T, what string, seed uint64, b []byte) {
	t.Helper()
	if at, code := Check(b); at != 0 || code != api.Fine {
		t.Fatalf("%s, seed %d: Check of %d bytes: %d, %d", what, seed, len(b), at, code)
	}
	l, code := Objects(b)
	if code != api.Fine || len(l) < 2 || l[0] != api.HeadSize {
		t.Fatalf("%s, seed %d: Objects: %v, %d", what, seed, l, code)
	}
}

// isFileRight tells where Check of that file finds anything.
func isFileRight(t *testing.T, what string, seed uint64, fs *simfs.FS, name string) {
	t.Helper()
	b, code := fs.All(name)
	if code != api.Fine {
		t.Fatalf("%s, seed %d: All of %q: %d", what, seed, name, code)
	}
	isRight(t, what, seed, b)
}

// thrownConfig answers what a journal is made with, by the dice.
func thrownConfig(throw func(n int) int) writer.Config {
	c := config(1+throw(6), 1+throw(4), throw(2) == 0)
	if throw(5) == 0 {
		c.DataSlots, c.FieldSlots = api.MaxSlots, api.MaxSlots
	}
	c.Most = 4096 + throw(api.MaxFile-4096+1)
	return c
}

// thrownFields answers the fields of an entry, by the dice: some of them again
// and again, some but once, some twice in a row; and some that are none.
func thrownFields(throw func(n int) int) []api.Pair {
	var l []api.Pair
	for range throw(7) {
		p := api.Pair{Name: string(rune('A' + throw(5))), Value: string(rune('a' + throw(4)))}
		switch throw(12) {
		case 0:
			p.Value = strings.Repeat(p.Value, throw(260))
		case 1:
			p.Value = string([]byte{byte(throw(256)), byte(throw(256)), 0, '='})
		case 2:
			p.Name = strings.Repeat(p.Name, 1+throw(65))
		}
		l = append(l, p, p)
	}
	return l
}

// P14.3: each image is right, whatever was appended; and each file that was
// committed, archived, renamed.
func TestWritersAreRight(t *testing.T) {
	for seed := range uint64(60) {
		throw := dice(seed)
		after := []uint64{0, 1, 7, 1 << 63}[throw(4)]
		fs, w := begun(t, thrownConfig(throw), after)
		isRight(t, "a new image", seed, w.Image())
		isFileRight(t, "a new file", seed, fs, "j")
		name := "j"
		for range 10 + throw(60) {
			w.Append(thrownFields(throw), uint64(throw(100)), uint64(throw(100)), api.ID{byte(throw(3))})
			isRight(t, "an image", seed, w.Image())
			if throw(8) == 0 && w.Commit() != api.Fine {
				t.Fatalf("seed %d: no Commit", seed)
			}
			if throw(16) == 0 && w.Rename(name+"x") == api.Fine {
				name += "x"
			}
			isFileRight(t, "a file", seed, fs, name)
		}
		if code := w.Archive(); code != api.Fine {
			t.Fatalf("seed %d: Archive: %d", seed, code)
		}
		isRight(t, "an archived image", seed, w.Image())
		isFileRight(t, "an archived file", seed, fs, name)
	}
}

// P14.3: journals as long as they may be: of many entries, of many payloads.
func TestFullJournalsAreRight(t *testing.T) {
	for seed, fields := range [](func(i int) []api.Pair){
		func(i int) []api.Pair { return []api.Pair{{Name: "A", Value: "1"}} },
		func(i int) []api.Pair { return []api.Pair{{Name: "A", Value: strings.Repeat("x", i)}} },
		func(i int) []api.Pair {
			return []api.Pair{{Name: "A" + strings.Repeat("B", i%64), Value: strings.Repeat("\xff", 256)}, {Name: "C"}}
		},
	} {
		for _, slots := range []int{1, api.MaxSlots} {
			fs, w := begun(t, config(slots, slots, slots == 1), 0)
			code := api.Fine
			for i := 0; code == api.Fine; i++ {
				_, code = w.Append(fields(i), uint64(i), uint64(i), api.ID{1})
			}
			if code != api.ErrFull && code != api.ErrLong || w.Tail() < 50 {
				t.Fatalf("Append: %d, of number %d", code, w.Tail()+1)
			}
			isRight(t, "a full image", uint64(seed), w.Image())
			if code := w.Commit(); code != api.Fine {
				t.Fatalf("Commit: %d", code)
			}
			isFileRight(t, "a full file", uint64(seed), fs, "j")
		}
	}
}

// P14.3: a file that was committed is right behind a crash, too, at whatever call
// power goes, and whatever sectors stay.
func TestCommittedFilesAreRightBehindACrash(t *testing.T) {
	for seed := range uint64(40) {
		for fuse := range 8 {
			throw := dice(seed)
			fs, w := begun(t, thrownConfig(throw), 0)
			fs.SyncDir()
			for round := range 2 {
				for range 1 + throw(12) {
					w.Append(thrownFields(throw), uint64(throw(100)), uint64(throw(100)), api.ID{1})
				}
				if round == 1 {
					fs.Fuse(fuse)
				}
				w.Commit()
			}
			for range 12 {
				x := fs.Copy()
				keep := make([]bool, 64)
				for i := range keep {
					keep[i] = throw(2) == 0
				}
				x.Crash(keep, 0)
				isFileRight(t, "a file behind a crash", seed, x, "j")
			}
		}
	}
}
