package writer

import (
	"bytes"
	"strings"
	"testing"

	"diurnal/api"
)

// P13.4: the file's bytes are the image's, and safe; nothing waits any more.
func TestCommit(t *testing.T) {
	fs, w := begun(t, conf(2, 2), 0)
	for i := range 16 {
		tells(t, "Commit", w.Commit(), api.Fine)
		has(t, fs, "j", w.Image())
		isSafe(t, fs, "j", w.Image())
		if w.Waiting() != 0 || w.Tail() != uint64(i*(i+1)/2) {
			t.Fatalf("behind commit %d: Waiting %d, Tail %d", i, w.Waiting(), w.Tail())
		}
		for n := range i + 1 {
			appended(t, w, "A1", "B"+strings.Repeat("x", n))
		}
		if w.Waiting() != i+1 {
			t.Errorf("ahead of commit %d: Waiting %d", i+1, w.Waiting())
		}
	}
}

// P13.4: a Commit leaves the image as it is, and Online.
func TestCommitLeavesTheImage(t *testing.T) {
	_, w := begun(t, conf(2, 2), 0)
	appended(t, w, "A1")
	want := w.Image()
	tells(t, "Commit", w.Commit(), api.Fine)
	if !bytes.Equal(w.Image(), want) || headOf(t, w).State != api.Online {
		t.Error("the image is another one")
	}
	tells(t, "Commit of nothing more", w.Commit(), api.Fine)
	if !bytes.Equal(w.Image(), want) {
		t.Error("the image is another one")
	}
}

// P13.4: the names of the directory are not made safe by a Commit, nor are other
// files.
func TestCommitSyncsTheFileAlone(t *testing.T) {
	fs, w := begun(t, conf(2, 2), 0)
	fs.Make("other")
	fs.SyncDir()
	fs.Write("other", 0, []byte("x"))
	fs.Make("new")
	appended(t, w, "A1")
	tells(t, "Commit", w.Commit(), api.Fine)
	want := w.Image()
	fs.Crash(nil, 0)
	if l := fs.Names(); len(l) != 2 {
		t.Errorf("a crash leaves %q", l)
	}
	has(t, fs, "other", nil)
	has(t, fs, "j", want)
}

// isNotDone tells where a Commit or an Archive tells another code, or changes
// anything.
func isNotDone(t *testing.T, w *Writer, want int) {
	t.Helper()
	image, tail, waiting := w.Image(), w.Tail(), w.Waiting()
	tells(t, "Commit", w.Commit(), want)
	tells(t, "Archive", w.Archive(), want)
	if !bytes.Equal(image, w.Image()) || tail != w.Tail() || waiting != w.Waiting() {
		t.Errorf("what told %d changed the journal", want)
	}
}

// P13.4: ErrFull where there is no room for what is new, to the byte; then
// nothing is done, and where there is room it is done.
func TestCommitWithoutRoom(t *testing.T) {
	for _, archive := range []bool{false, true} {
		fs, w := begunIn(t, api.MinRoom, conf(2, 2), 0)
		appended(t, w, "A1")
		tells(t, "Commit", w.Commit(), api.Fine)
		was := w.Image()
		appended(t, w, "A1", "B"+strings.Repeat("x", 250))
		more := len(w.Image()) - len(was)
		fs.Make("last")
		filled(t, fs, more)
		fs.Write("last", 0, []byte("x"))
		isNotDone(t, w, api.ErrFull)
		has(t, fs, "j", was)
		appended(t, w, "A1")
		isNotDone(t, w, api.ErrFull)
		fs.Drop("last")
		isNotDone(t, w, api.ErrFull)
		fs.Drop("filler0")
		filled(t, fs, len(w.Image())-len(was))
		if archive {
			tells(t, "Archive", w.Archive(), api.Fine)
		} else {
			tells(t, "Commit", w.Commit(), api.Fine)
		}
		if fs.Free() != 0 {
			t.Errorf("%d bytes are left", fs.Free())
		}
		has(t, fs, "j", w.Image())
		isSafe(t, fs, "j", w.Image())
	}
}

// P13.4: what is no longer than the file needs no room, be there any or none.
func TestCommitOfNothingLonger(t *testing.T) {
	fs, w := begunIn(t, api.MinRoom, conf(2, 2), 0)
	appended(t, w, "A1")
	tells(t, "Commit", w.Commit(), api.Fine)
	filled(t, fs, 0)
	tells(t, "Commit", w.Commit(), api.Fine)
	tells(t, "Archive", w.Archive(), api.Fine)
	has(t, fs, "j", w.Image())
	isSafe(t, fs, "j", w.Image())
}

// P13.4: ErrNone where the name is not there any more, ahead of ErrFull; ErrOff
// without power, ahead of ErrNone; nothing is done.
func TestCommitOfWhatIsNotThere(t *testing.T) {
	fs, w := begunIn(t, api.MinRoom, conf(2, 2), 0)
	appended(t, w, "A1", "B"+strings.Repeat("x", 250))
	fs.Drop("j")
	isNotDone(t, w, api.ErrNone)
	filled(t, fs, 0)
	isNotDone(t, w, api.ErrNone)
	if l := fs.Names(); len(l) == 0 || strings.HasPrefix(l[len(l)-1], "j") {
		t.Errorf("the files are %q", l)
	}
	fs.Fuse(0)
	fs.SyncDir()
	isNotDone(t, w, api.ErrOff)
}

// P13.4: ErrOff without power, ahead of ErrFull; and where it goes meanwhile:
// all that was appended waits still.
func TestCommitWithoutPower(t *testing.T) {
	fs, w := begunIn(t, api.MinRoom, conf(2, 2), 0)
	appended(t, w, "A1")
	filled(t, fs, 0)
	fs.Fuse(0)
	fs.SyncDir()
	isNotDone(t, w, api.ErrOff)
	for fuse := range 100 {
		fs, w := begunIn(t, api.MinRoom, conf(2, 2), 0)
		for range 10 {
			appended(t, w, "A1")
		}
		want := w.Image()
		fs.Fuse(fuse)
		code := w.Commit()
		if !bytes.Equal(w.Image(), want) || w.Tail() != 10 {
			t.Errorf("fuse %d: another image", fuse)
		}
		if code == api.Fine {
			if w.Waiting() != 0 || fs.Off() || fuse == 0 {
				t.Errorf("fuse %d: Waiting %d", fuse, w.Waiting())
			}
			return
		}
		if code != api.ErrOff || w.Waiting() != 10 {
			t.Fatalf("fuse %d: %d, Waiting %d", fuse, code, w.Waiting())
		}
		isNotDone(t, w, api.ErrOff)
	}
	t.Error("Commit has no end")
}

// P13.4: Archive: a Commit with State Archived, for good.
func TestArchive(t *testing.T) {
	for n := range 3 {
		fs, w := begun(t, conf(2, 2), 0)
		p := plainly(conf(2, 2), 0)
		for i := range n {
			if code := addBoth(w, p, pairs("A1"), uint64(i), 0, boot(i)); code != api.Fine {
				t.Fatal("Append", code)
			}
		}
		tells(t, "Archive", w.Archive(), api.Fine)
		want := p.bytes(api.Archived)
		if !bytes.Equal(w.Image(), want) || w.Waiting() != 0 || w.Tail() != uint64(n) {
			t.Errorf("behind %d entries: another image; Waiting %d, Tail %d", n, w.Waiting(), w.Tail())
		}
		has(t, fs, "j", want)
		isSafe(t, fs, "j", want)
		isNotDone(t, w, api.ErrState)
		// ErrState is ahead of ErrNone and ErrOff.
		fs.Drop("j")
		isNotDone(t, w, api.ErrState)
		fs.Fuse(0)
		fs.SyncDir()
		isNotDone(t, w, api.ErrState)
	}
}

// P13.4: an Archive that was not done leaves the journal Online: it may be
// appended to.
func TestArchiveThatIsNotDone(t *testing.T) {
	fs, w := begunIn(t, api.MinRoom, conf(2, 2), 0)
	appended(t, w, "A1")
	filled(t, fs, 0)
	tells(t, "Archive", w.Archive(), api.ErrFull)
	appended(t, w, "A2")
	fs.Drop("filler0")
	fs.Fuse(1)
	tells(t, "Archive", w.Archive(), api.ErrOff)
	appended(t, w, "A3")
	if headOf(t, w).State != api.Online || w.Waiting() != 3 {
		t.Errorf("State %d, Waiting %d", headOf(t, w).State, w.Waiting())
	}
}

// P13.4: the writer goes on under its new name, archived or not; one that had
// that name is not there any more.
func TestRename(t *testing.T) {
	fs, w := begun(t, conf(2, 2), 0)
	fs.Make("k")
	fs.Write("k", 0, make([]byte, 5000))
	appended(t, w, "A1")
	was, _ := fs.All("j")
	tells(t, "Rename", w.Rename("k"), api.Fine)
	if l := fs.Names(); len(l) != 1 || l[0] != "k" {
		t.Fatalf("the files are %q", l)
	}
	has(t, fs, "k", was)
	if w.Waiting() != 1 {
		t.Errorf("Waiting %d", w.Waiting())
	}
	tells(t, "Commit", w.Commit(), api.Fine)
	has(t, fs, "k", w.Image())
	tells(t, "Rename onto itself", w.Rename("k"), api.Fine)
	tells(t, "Archive", w.Archive(), api.Fine)
	tells(t, "Rename", w.Rename("l"), api.Fine)
	has(t, fs, "l", w.Image())
}

// P13.4: simfs' codes of Rename; the writer goes on where it was.
func TestRenameThatIsNotDone(t *testing.T) {
	fs, w := begun(t, conf(2, 2), 0)
	for _, name := range []string{"", "a b", strings.Repeat("k", 97)} {
		tells(t, "Rename", w.Rename(name), api.ErrArg)
	}
	appended(t, w, "A1")
	tells(t, "Commit", w.Commit(), api.Fine)
	has(t, fs, "j", w.Image())
	fs.Drop("j")
	tells(t, "Rename of what is not there", w.Rename("k"), api.ErrNone)
	tells(t, "Rename to no name", w.Rename(""), api.ErrArg)
	fs.Fuse(0)
	fs.SyncDir()
	tells(t, "Rename without power", w.Rename("k"), api.ErrOff)
	tells(t, "Rename without power", w.Rename(""), api.ErrOff)
	fs, w = begun(t, conf(2, 2), 0)
	fs.Fuse(0)
	tells(t, "Rename where power goes", w.Rename("k"), api.ErrOff)
}

// P13.1: two journals in one directory know nothing of each other.
func TestTwoWriters(t *testing.T) {
	fs, a := begun(t, conf(2, 2), 0)
	b, code := Create(fs, "k", conf(3, 3), 50)
	tells(t, "Create", code, api.Fine)
	appended(t, a, "A1")
	appended(t, b, "B1", "C1")
	tells(t, "Commit", a.Commit(), api.Fine)
	if a.Tail() != 1 || b.Tail() != 51 || a.Waiting() != 0 || b.Waiting() != 1 {
		t.Errorf("Tail %d, %d; Waiting %d, %d", a.Tail(), b.Tail(), a.Waiting(), b.Waiting())
	}
	tells(t, "Archive", b.Archive(), api.Fine)
	appended(t, a, "A1")
	tells(t, "Commit", a.Commit(), api.Fine)
	has(t, fs, "j", a.Image())
	has(t, fs, "k", b.Image())
}
