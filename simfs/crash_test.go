package simfs

import (
	"math"
	"strconv"
	"testing"

	"diurnal/api"
)

// P6.2: the chapter's example.
func TestCrashOfTheExample(t *testing.T) {
	f := empty(t, 4096)
	fine(t, f.Make("a"))
	f.Crash(nil, 0)
	lists(t, f)
}

// P6.2: the first dirs of what is pending stay, all others are undone.
func TestCrashOfEachCountOfDirs(t *testing.T) {
	f := with(t, "a", "b")
	safely(t, f, "a", []byte("one"))
	safely(t, f, "b", []byte("two"))
	fine(t, f.Make("c"), f.Rename("a", "d"), f.Drop("b"), f.Rename("c", "b"), f.Make("a"), f.Rename("d", "a"))
	rows := [][]string{{"a", "b"}, {"a", "b", "c"}, {"b", "c", "d"}, {"c", "d"}, {"b", "d"}, {"a", "b", "d"}, {"a", "b"}}
	one := []string{"a", "a", "d", "d", "d", "d", "a"}
	for dirs, want := range rows {
		g := f.Copy()
		g.Crash(nil, dirs)
		lists(t, g, want...)
		has(t, g, one[dirs], []byte("one"))
		if dirs < 3 {
			has(t, g, "b", []byte("two"))
			free(t, g, 1<<20-6)
		} else {
			free(t, g, 1<<20-3)
		}
	}
}

// P6.2: dirs below 0 is none, dirs beyond what is pending all.
func TestCrashOfOddDirs(t *testing.T) {
	f := with(t, "a", "b")
	fine(t, f.Make("c"), f.Drop("a"))
	for _, dirs := range []int{-1, -2, -1000, math.MinInt, 0} {
		g := f.Copy()
		g.Crash(nil, dirs)
		lists(t, g, "a", "b")
	}
	for _, dirs := range []int{2, 3, 1000, math.MaxInt} {
		g := f.Copy()
		g.Crash(nil, dirs)
		lists(t, g, "b", "c")
	}
}

// P6.2: what stood under a name that a file took is there again when that is
// undone, with what it had.
func TestCrashUndoesRenameOntoAnother(t *testing.T) {
	f := with(t, "a", "b")
	safely(t, f, "a", wild(600))
	safely(t, f, "b", wild(50))
	fine(t, f.Rename("a", "b"), f.Rename("b", "a"), f.Rename("a", "b"))
	wrote(t, f, "b", []byte("new"))
	fine(t, f.Sync("b"))
	f.Crash(nil, 0)
	lists(t, f, "a", "b")
	has(t, f, "a", append([]byte("new"), wild(600)[3:]...))
	has(t, f, "b", wild(50))
}

// P6.2: files that were dropped one behind the other under one name come back
// one by one.
func TestCrashUndoesDropsOfOneName(t *testing.T) {
	f := with(t, "a")
	for i := range 5 {
		safely(t, f, "a", []byte{byte(i)})
		fine(t, f.Drop("a"), f.Make("a"))
	}
	for dirs := range 11 {
		g := f.Copy()
		g.Crash(nil, dirs)
		switch {
		case dirs == 10:
			has(t, g, "a", nil)
		case dirs%2 == 0:
			has(t, g, "a", []byte{byte(dirs / 2)})
		default:
			lists(t, g)
		}
	}
}

// P6.2: what was pending ahead of SyncDir stays.
func TestSyncDirLeavesNothingPending(t *testing.T) {
	f := with(t, "a", "b")
	fine(t, f.Make("c"), f.Rename("a", "d"), f.Drop("b"), f.SyncDir())
	f.Crash(nil, 0)
	lists(t, f, "c", "d")
	fine(t, f.Drop("c"), f.SyncDir(), f.Make("b"), f.SyncDir(), f.SyncDir(), f.Drop("d"))
	f.Crash(nil, 0)
	lists(t, f, "b", "d")
}

// P6.2: SyncDir makes no bytes safe, and Sync no name.
func TestSyncDirIsNotSync(t *testing.T) {
	f := with(t, "a")
	wrote(t, f, "a", wild(600))
	fine(t, f.SyncDir(), f.Make("b"))
	safely(t, f, "b", wild(600))
	f.Crash(nil, 0)
	lists(t, f, "a")
	has(t, f, "a", nil)
}

// P6.2: Write, Sync, a Rename onto itself, and what was told another code than
// Fine are nothing that is pending.
func TestNothingElseIsPending(t *testing.T) {
	f := with(t, "a", "b")
	fine(t, f.Rename("a", "a"), f.Write("a", 0, []byte("x")), f.Sync("a"), f.Write("b", 0, nil))
	f.Make("a")
	f.Make("")
	f.Rename("c", "d")
	f.Rename("c", "c")
	f.Rename("a", "")
	f.Drop("c")
	f.Drop("")
	f.Write("c", 0, []byte("x"))
	fine(t, f.Drop("b"), f.Rename("a", "a"), f.Make("c"))
	for dirs, want := range [][]string{{"a", "b"}, {"a"}, {"a", "c"}} {
		g := f.Copy()
		g.Crash(nil, dirs)
		lists(t, g, want...)
	}
}

// P6.2: behind a crash nothing is pending, whatever it left.
func TestNothingIsPendingBehindACrash(t *testing.T) {
	f := with(t, "a", "b")
	fine(t, f.Make("c"), f.Rename("a", "d"), f.Drop("b"))
	for dirs := range 4 {
		g := f.Copy()
		g.Crash(nil, dirs)
		want := g.Names()
		g.Crash(nil, 0)
		lists(t, g, want...)
		fine(t, g.Make("e"))
		g.Crash(nil, 0)
		lists(t, g, want...)
	}
}

// P6.2: what a crash left is safe, all of it, and stays through the next one.
func TestAllIsSafeBehindACrash(t *testing.T) {
	f := with(t, "a", "b")
	wrote(t, f, "a", wild(2000))
	wrote(t, f, "b", wild(700))
	f.Crash(bits(0b101101, 6), 0)
	a := append(wild(512), make([]byte, 512)...)
	a = append(a, wild(2000)[1024:]...)
	has(t, f, "a", a)
	b := append(make([]byte, 512), wild(700)[512:]...)
	has(t, f, "b", b)
	f.Crash(nil, 0)
	has(t, f, "a", a)
	has(t, f, "b", b)
}

// P6.2: each file has as many of keep as it has dirty sectors, in the order in
// which the files were made, whatever their names are by now.
func TestCrashSharesKeepByAge(t *testing.T) {
	names := []string{"m", "c", "x", "a"}
	for v := range 1 << 6 {
		f := with(t, names...)
		safely(t, f, "c", wild(1500))
		wrote(t, f, "a", wild(512))
		wrote(t, f, "x", wild(1030))
		fine(t, f.Write("c", 600, []byte{0}))
		wrote(t, f, "m", wild(1))
		// The oldest is the last by name, and the youngest the first no more.
		fine(t, f.Rename("m", "z"), f.Rename("a", "n"), f.SyncDir())
		keep := bits(v, 6)
		f.Crash(keep, 0)
		lists(t, f, "c", "n", "x", "z")
		has(t, f, "z", wild(v&1))
		c := wild(1500)
		if keep[1] {
			c[600] = 0
		}
		has(t, f, "c", c)
		var x []byte
		for i, n := range []int{512, 512, 6} {
			if keep[2+i] {
				x = append(x, make([]byte, 512*i-len(x))...)
				x = append(x, wild(1030)[512*i:512*i+n]...)
			}
		}
		has(t, f, "x", x)
		has(t, f, "n", wild(v>>5*512))
	}
}

// P6.2: many files are gone through from the oldest to the youngest, as numbers
// and not as texts.
func TestCrashSharesKeepAmongMany(t *testing.T) {
	f := empty(t, api.MaxRoom)
	for i := range 24 {
		fine(t, f.Make("f"+strconv.Itoa(i*7%24)))
	}
	fine(t, f.SyncDir())
	for i := range 24 {
		wrote(t, f, "f"+strconv.Itoa(i), wild(10))
	}
	f.Crash(bits(0x00f00f, 24), 0)
	for i := range 24 {
		has(t, f, "f"+strconv.Itoa(i*7%24), wild(0x00f00f>>i&1*10))
	}
}

// P6.2: a keep that is too short, or too long, is as one of as many as are
// asked for, the others false.
func TestCrashOfShortAndLongKeep(t *testing.T) {
	for n := range 9 {
		f := with(t, "b", "a")
		wrote(t, f, "b", wild(1024))
		wrote(t, f, "a", wild(1536))
		f.Crash(bits(-1, n), 0)
		has(t, f, "b", wild(min(n, 2)*512))
		has(t, f, "a", wild(min(max(n-2, 0), 3)*512))
	}
}

// P6.2: files that come back have their share of keep, in the order in which
// they were made; those that are not there behind it have none.
func TestCrashSharesKeepAmongThoseThatAreThere(t *testing.T) {
	f := with(t, "a", "b", "c")
	for _, name := range []string{"a", "b", "c"} {
		wrote(t, f, name, wild(600))
	}
	fine(t, f.Drop("a"), f.Make("d"))
	wrote(t, f, "d", wild(600))
	fine(t, f.Rename("d", "b"))
	g := f.Copy()
	g.Crash(bits(0b100101, 6), 0)
	lists(t, g, "a", "b", "c")
	has(t, g, "a", wild(512))
	has(t, g, "b", wild(512))
	has(t, g, "c", append(make([]byte, 512), wild(600)[512:]...))
	g = f.Copy()
	g.Crash(bits(0b010101, 6), 2)
	lists(t, g, "b", "c", "d")
	has(t, g, "b", wild(512))
	has(t, g, "c", wild(512))
	has(t, g, "d", wild(512))
	g = f.Copy()
	g.Crash(bits(0b1101, 4), 3)
	lists(t, g, "b", "c")
	has(t, g, "c", wild(512))
	has(t, g, "b", wild(600))
}

// P6.2: a new file of an old name is the youngest.
func TestCrashOfAFileThatIsMadeAgain(t *testing.T) {
	f := with(t, "a", "b")
	fine(t, f.Drop("a"), f.Make("a"), f.SyncDir())
	wrote(t, f, "a", wild(10))
	wrote(t, f, "b", wild(20))
	f.Crash([]bool{true}, 0)
	has(t, f, "b", wild(20))
	has(t, f, "a", nil)
	fine(t, f.Make("0"))
	f.Crash(nil, 0)
	fine(t, f.Make("1"), f.SyncDir())
	wrote(t, f, "1", wild(30))
	wrote(t, f, "a", wild(10))
	f.Crash([]bool{true}, 0)
	has(t, f, "a", wild(10))
	has(t, f, "1", nil)
}

// P6.2: a directory that is full may be full again when what was dropped comes
// back.
func TestCrashOfAFullDirectory(t *testing.T) {
	f := empty(t, 4096)
	for i := range 24 {
		fine(t, f.Make("f"+strconv.Itoa(i)))
	}
	fine(t, f.SyncDir())
	want := f.Names()
	for i := range 24 {
		fine(t, f.Drop("f"+strconv.Itoa(i)), f.Make("g"+strconv.Itoa(i)))
	}
	f.Crash(nil, 0)
	lists(t, f, want...)
	tells(t, api.ErrFull, f.Make("g"))
	tells(t, api.ErrExist, f.Make("f3"))
}

// P6.2: a crash without anything to lose changes nothing.
func TestCrashOfNothing(t *testing.T) {
	f := empty(t, 4096)
	f.Crash(nil, 0)
	f.Crash([]bool{true, false}, 5)
	lists(t, f)
	free(t, f, 4096)
	fine(t, f.Make("a"), f.SyncDir())
	safely(t, f, "a", wild(600))
	f.Crash(nil, 0)
	has(t, f, "a", wild(600))
	free(t, f, 3496)
}
