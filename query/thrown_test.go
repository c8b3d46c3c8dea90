package query

import (
	"fmt"
	"math"
	"slices"
	"strings"
	"testing"

	"diurnal/api"
	"diurnal/chain"
	"diurnal/check"
	"diurnal/jfile"
	"diurnal/link"
	"diurnal/match"
	"diurnal/simfs"
)

// payloads are those of which journals are thrown.
func payloads() []string {
	return []string{"A=", "A=1", "A=2", "A1=", "B=1", "B==", "B=A=1", "C=1"}
}

// thrownRows answers the rows of payloads of up to so many entries.
func thrownRows(throw func(n int) int, most int) []string {
	all := payloads()
	var rows []string
	for range throw(most + 1) {
		var l []string
		for range 1 + throw(4) {
			l = append(l, all[throw(len(all))])
		}
		rows = append(rows, strings.Join(l, " "))
	}
	return rows
}

// thrownShape answers how a thrown journal is written.
func thrownShape(throw func(n int) int) shape {
	return shape{[]int{1, 2, 5, api.MaxSlots}[throw(4)], throw(2) == 0}
}

// thrownMatch answers a match of few parts, right or not.
func thrownMatch(throw func(n int) int) api.Match {
	texts := []string{"", "1", "2", "=", "A=1", "3"}
	var m api.Match
	for range throw(4) {
		var r []api.Alt
		for range []int{1, 1, 1, 2, 2, 3, 0}[throw(7)] {
			a := alt([]string{"A", "A", "B", "C", "A1", "A=", "a", ""}[throw(8-3*throw(2))])
			for range []int{1, 1, 2, 3, 0}[throw(5)] {
				a.Values = append(a.Values, texts[throw(len(texts))])
			}
			r = append(r, a)
		}
		m.Rows = append(m.Rows, r)
	}
	return m
}

// isToldOf tells where Has of each thrown payload, and of some that are not
// right, and Find of thrown matches don't answer what the chapter's words say.
// It answers how often Find had some, but not all.
func isToldOf(t *testing.T, what string, f *jfile.File, throw func(n int) int) (some int) {
	t.Helper()
	for _, s := range append(payloads(), "a=1", "=A=1", "A=3") {
		isHas(t, what, f, pair(s), toldHas(f, pair(s))...)
	}
	isHas(t, what, f, api.Pair{Name: "B=A", Value: "1"})
	for range 4 {
		m := thrownMatch(throw)
		want := toldFind(f, m)
		isFind(t, what, f, m, want...)
		if len(want) > 0 && len(want) < len(f.Good()) {
			some++
		}
	}
	return some
}

// P18.2: of journals that a writer has, committed or not, archived or not, Find
// is just what match.Holds.
func TestWhatFollowsOfWriters(t *testing.T) {
	some := 0
	for seed := range uint64(400) {
		throw := dice(seed)
		w, fs := filled(t, thrownShape(throw), thrownRows(throw, 40)...)
		commit := w.Commit
		if throw(2) == 0 {
			commit = w.Archive
		}
		if code := commit(); code != api.Fine {
			t.Fatalf("seed %d: committed: %d", seed, code)
		}
		for _, b := range [][]byte{w.Image(), file(t, fs)} {
			some += isWhatHolds(t, fmt.Sprint("seed ", seed), b, throw)
		}
	}
	if some < 400 {
		t.Errorf("some, but not all, were found only %d times", some)
	}
}

// file answers the bytes of the journal in the directory.
func file(t *testing.T, fs *simfs.FS) []byte {
	t.Helper()
	b, code := fs.All("j")
	if code != api.Fine {
		t.Fatalf("All: %d", code)
	}
	return b
}

// isWhatHolds tells where check does not take b, and where Find of thrown
// matches is not what match.Holds of their fields. It answers how often Find had
// some, but not all.
func isWhatHolds(t *testing.T, what string, b []byte, throw func(n int) int) (some int) {
	t.Helper()
	if at, code := check.Check(b); code != api.Fine {
		t.Fatalf("%s: Check: %d, %d", what, at, code)
	}
	f := opened(t, b)
	for range 6 {
		m := thrownMatch(throw)
		want := held(t, f, m)
		isFind(t, what, f, m, want...)
		if len(want) > 0 && len(want) < len(f.Good()) {
			some++
		}
	}
	for _, s := range payloads() {
		m, code := match.Compile([]string{s})
		if code != api.Fine {
			t.Fatalf("Compile of %q: %d", s, code)
		}
		isHas(t, what, f, pair(s), held(t, f, m)...)
	}
	return some
}

// P18.2: of a committed file where power went in the next commit, too.
func TestWhatFollowsBehindACrash(t *testing.T) {
	lengths := map[int]int{}
	for fuse := range 12 {
		for nth := range 4 {
			what := fmt.Sprint("fuse ", fuse, ", each sector by ", nth)
			f := opened(t, crashed(t, fuse, nth))
			lengths[f.Len()]++
			throw := dice(uint64(4*fuse + nth))
			for range 6 {
				m := thrownMatch(throw)
				isFind(t, what, f, m, held(t, f, m)...)
			}
			isFind(t, what, f, compiled(t, "A=1"), held(t, f, compiled(t, "A=1"))...)
		}
	}
	if lengths[3] < 4 || lengths[7] < 4 || lengths[3]+lengths[7] != 48 {
		t.Errorf("so many files of so many entries: %v", lengths)
	}
}

// crashed answers the bytes of a file of three entries, where power went in the
// commit of four more, after so many calls; each nth of the dirty sectors stays
// (0: none).
func crashed(t *testing.T, fuse, nth int) []byte {
	t.Helper()
	w, fs := filled(t, shape{2, true}, "A=1 B=1", "A=2", "A=1")
	if w.Commit() != api.Fine || fs.SyncDir() != api.Fine {
		t.Fatal("the first commit failed")
	}
	for _, row := range []string{"A=1 C=1", "B=1 C=1", "A=2 B=A=1", "A=1"} {
		if _, code := w.Append(pairs(row), 100, 100, api.ID{6}); code != api.Fine {
			t.Fatalf("Append: %d", code)
		}
	}
	fs.Fuse(fuse)
	w.Commit()
	var keep []bool
	for i := range api.MaxFile / api.Sector {
		keep = append(keep, nth > 0 && (i+fuse)%nth == 0)
	}
	fs.Crash(keep, 0)
	return file(t, fs)
}

// P18.1: journals whose numbers are spoilt in many ways, against the chapter's
// words.
func TestSpoiltJournals(t *testing.T) {
	var finds, ofs [api.ErrShort + 1]int
	some := 0
	for seed := range uint64(4000) {
		throw := dice(seed)
		f, code := jfile.Open(spoilt(t, throw))
		if code != api.Fine {
			continue
		}
		some += isToldOf(t, fmt.Sprint("seed ", seed), f, throw)
		for _, s := range payloads() {
			at, code := chain.FindData(f.View(), []byte(s))
			finds[code]++
			if code != api.Fine {
				continue
			}
			l, code := link.Of(f.View(), at)
			if len(l) > 0 {
				ofs[code]++
			}
		}
	}
	for _, code := range []int{api.Fine, api.ErrNone, api.ErrLoop, api.ErrType, api.ErrAlign} {
		if finds[code] < 50 {
			t.Errorf("FindData told %d only %d times", code, finds[code])
		}
	}
	for _, code := range []int{api.Fine, api.ErrOrder, api.ErrLoop, api.ErrType, api.ErrAlign} {
		if ofs[code] < 20 {
			t.Errorf("Of told %d, and some places, only %d times", code, ofs[code])
		}
	}
	if some < 1000 {
		t.Errorf("some, but not all, were found only %d times", some)
	}
}

// spoilt answers the bytes of a right journal in which some numbers, of slots,
// data, arrays, entries and anywhere, were changed.
func spoilt(t *testing.T, throw func(n int) int) []byte {
	t.Helper()
	b := written(t, shape{1 + throw(2), throw(2) == 0}, append(thrownRows(throw, 20), "A=1")...)
	datas, entries, arrays := objects(t, b, api.Data), objects(t, b, api.Entry), objects(t, b, api.Array)
	end, table := uint64(len(b)), opened(t, b).Head().DataTable
	values := slices.Concat(datas, entries, entries, arrays, []uint64{0, 1, 2, 8, 276, entries[0] + 4, end - 8, end, math.MaxUint64})
	for range 1 + throw(6) {
		v := values[throw(len(values))]
		d, e, a := datas[throw(len(datas))], entries[throw(len(entries))], arrays[throw(len(arrays))]
		switch throw(10) {
		case 0:
			b = put(t, b, table, v)
		case 1:
			b = put(t, b, d+dataNextHash, v)
		case 2:
			b = put(t, b, d+dataEntry, v)
		case 3:
			b = put(t, b, d+dataArray, v)
		case 4:
			b = put(t, b, d+dataCount, v)
		case 5:
			b = put(t, b, a+arrayNext, v)
		case 6:
			b = put(t, b, a+arrayItems+8*uint64(throw(4)), v)
		case 7:
			b = put(t, b, e+entrySeq, uint64(throw(30)))
		case 8:
			b = put(t, b, e+entryXor, v)
		case 9:
			b = put(t, b, 8*uint64(throw(len(b)/8)), v)
		}
	}
	return b
}

// P0.1, P18.1, P18.2: with any byte spoilt, each call ends, and says what the
// chapter does; where check takes it nevertheless, Find is what match.Holds.
func TestEachByteSpoilt(t *testing.T) {
	right := written(t, shape{2, true}, "A=1", "A=1 B=1", "A=2 B==", "A=1", "A=1", "A=1 A=2", "A=1")
	taken := 0
	for i := range right {
		for _, turn := range []byte{1, 0x08, 0x80, 0xff} {
			b := slices.Clone(right)
			b[i] ^= turn
			what, throw := fmt.Sprint("byte ", i, " turned by ", turn), dice(uint64(i)<<8|uint64(turn))
			f, code := jfile.Open(b)
			if code != api.Fine {
				continue
			}
			isToldOf(t, what, f, throw)
			if _, code := check.Check(b); code == api.Fine {
				isWhatHolds(t, what, b, throw)
				taken++
			}
		}
	}
	if taken < 500 {
		t.Errorf("check took only %d", taken)
	}
}
