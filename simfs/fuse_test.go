package simfs

import (
	"bytes"
	"math"
	"slices"
	"strconv"
	"testing"

	"diurnal/api"
)

// one answers a directory of one file a, all safe.
func one(t *testing.T) *FS {
	t.Helper()
	f := with(t, "a")
	safely(t, f, "a", []byte("old"))
	return f
}

// P6.3: a fuse counts each call that changes something, and that tells Fine.
func TestFuseCountsEachChange(t *testing.T) {
	for _, c := range changes() {
		f := one(t)
		f.Fuse(1)
		fine(t, c.call(f))
		if f.Off() {
			t.Errorf("%s: power is off ahead of the fuse's end", c.name)
		}
		tells(t, api.ErrOff, f.SyncDir())
		if !f.Off() {
			t.Errorf("%s: power is on behind the fuse's end", c.name)
		}
	}
}

// P6.3: each call at the fuse's end takes the power off, and is not done.
func TestFuseEndsEachChange(t *testing.T) {
	for _, c := range changes() {
		f := one(t)
		wrote(t, f, "a", []byte("now"))
		fine(t, f.Make("c"))
		f.Fuse(0)
		if f.Off() {
			t.Errorf("%s: power is off ahead of it", c.name)
		}
		tells(t, api.ErrOff, c.call(f))
		if !f.Off() {
			t.Errorf("%s: power is on", c.name)
		}
		kept := f.Copy()
		f.Crash(nil, 0)
		lists(t, f, "a")
		has(t, f, "a", []byte("old"))
		kept.Crash([]bool{true}, math.MaxInt)
		lists(t, kept, "a", "c")
		has(t, kept, "a", []byte("now"))
	}
}

// P6.3: n calls are done, whatever they are, and no more.
func TestFuseOfEachCount(t *testing.T) {
	for n := range 20 {
		f := one(t)
		f.Fuse(n)
		done := 0
		for f.Make("b") == api.Fine {
			done++
			for _, code := range []int{f.Write("b", done, []byte("x")), f.Rename("b", "c"), f.Sync("c"), f.Drop("c")} {
				if code == api.Fine {
					done++
				}
			}
		}
		if done != n || !f.Off() {
			t.Errorf("Fuse(%d): %d done, off %v", n, done, f.Off())
		}
	}
}

// P6.3: calls that tell another code than Fine, and those that change nothing,
// neither count nor take the power off.
func TestFuseDoesNotCountOthers(t *testing.T) {
	for n := range 3 {
		f := one(t)
		f.Fuse(n)
		tells(t, api.ErrArg, f.Make(""), f.Write("", 0, nil), f.Write("a", -1, nil), f.Sync(""), f.Rename("", "a"), f.Rename("a", ""), f.Drop(""))
		tells(t, api.ErrNone, f.Write("b", 0, nil), f.Sync("b"), f.Rename("b", "a"), f.Rename("b", "b"), f.Drop("b"))
		tells(t, api.ErrFull, f.Write("a", 32769, nil), f.Write("a", 0, wild(32769)))
		tells(t, api.ErrExist, f.Make("a"))
		has(t, f, "a", []byte("old"))
		lists(t, f, "a")
		free(t, f, 1<<20-3)
		f.Read("a", 0, 3)
		f.Read("a", 0, 4)
		f.All("b")
		f.Copy().Crash(nil, 0)
		if f.Off() {
			t.Fatalf("Fuse(%d): power is off", n)
		}
		for range n {
			fine(t, f.SyncDir())
		}
		tells(t, api.ErrOff, f.SyncDir())
	}
}

// P6.3: a Write for which there is no room, and a Make of one file too many,
// are not the end of the fuse.
func TestFuseDoesNotCountWhatIsFull(t *testing.T) {
	f := empty(t, 4096)
	for i := range 24 {
		fine(t, f.Make(string(rune('a'+i))))
	}
	wrote(t, f, "a", wild(4096))
	f.Fuse(0)
	tells(t, api.ErrFull, f.Make("z"), f.Write("b", 0, []byte("x")), f.Write("a", 0, wild(4097)))
	if f.Off() {
		t.Error("power is off")
	}
	tells(t, api.ErrOff, f.Write("a", 0, []byte("x")))
	f.Crash(bits(-1, 8), 24)
	has(t, f, "a", wild(4096))
}

// P6.3: at first, and with n below 0, there is no fuse; the last one that is
// named holds.
func TestNoFuse(t *testing.T) {
	for _, n := range []int{-1, -2, -100, math.MinInt} {
		f := one(t)
		for range 2 {
			for range 200 {
				fine(t, f.Make("b"), f.Write("b", 0, []byte("x")), f.Sync("b"), f.Rename("b", "c"), f.SyncDir(), f.Drop("c"))
			}
			f.Fuse(0)
			f.Fuse(n)
		}
	}
	f := one(t)
	f.Fuse(0)
	f.Fuse(2)
	fine(t, f.SyncDir())
	f.Fuse(2)
	fine(t, f.SyncDir(), f.SyncDir())
	tells(t, api.ErrOff, f.SyncDir())
	f = one(t)
	f.Fuse(math.MaxInt)
	fine(t, f.SyncDir(), f.SyncDir())
}

// P6.3: a fuse brings no power back: a crash does, and no fuse is left then.
func TestPowerComesBackByACrash(t *testing.T) {
	f := one(t)
	f.Fuse(0)
	tells(t, api.ErrOff, f.Drop("a"))
	for _, n := range []int{-1, 0, 5} {
		f.Fuse(n)
		if !f.Off() {
			t.Errorf("power is on behind Fuse(%d)", n)
		}
		tells(t, api.ErrOff, f.Make("b"))
	}
	f.Crash(nil, 0)
	if f.Off() {
		t.Error("power is off behind a crash")
	}
	for range 10 {
		fine(t, f.SyncDir())
	}
	f.Fuse(3)
	f.Crash(nil, 0)
	for range 10 {
		fine(t, f.SyncDir())
	}
	lists(t, f, "a")
}

// P6.3: what was done ahead of the fuse's end is as dirty, and as pending, as
// ever.
func TestCrashBehindAFuse(t *testing.T) {
	f := one(t)
	f.Fuse(4)
	fine(t, f.Write("a", 0, []byte("now")), f.Make("b"), f.Write("b", 0, []byte("x")), f.Rename("a", "c"))
	tells(t, api.ErrOff, f.Sync("c"))
	tells(t, api.ErrOff, f.SyncDir())
	for dirs, want := range [][]string{{"a"}, {"a", "b"}, {"b", "c"}} {
		g := f.Copy()
		g.Crash(nil, dirs)
		lists(t, g, want...)
	}
	g := f.Copy()
	g.Crash(nil, 2)
	has(t, g, "b", nil)
	has(t, g, "c", []byte("old"))
	f.Crash([]bool{true, true}, 2)
	has(t, f, "b", []byte("x"))
	has(t, f, "c", []byte("now"))
}

// P6.3: a copy has the same bytes, names and room, is as safe, as pending and
// as near to its fuse's end.
func TestCopyIsTheSame(t *testing.T) {
	f := one(t)
	wrote(t, f, "a", []byte("now"))
	fine(t, f.Make("b"), f.Rename("a", "c"))
	f.Fuse(2)
	g := f.Copy()
	for _, h := range []*FS{g, g.Copy(), g.Copy().Copy()} {
		lists(t, h, "b", "c")
		has(t, h, "c", []byte("now"))
		free(t, h, 1<<20-3)
		fine(t, h.Sync("b"), h.Write("b", 0, nil))
		tells(t, api.ErrOff, h.Sync("b"))
		off := h.Copy()
		if !off.Off() || len(off.Names()) > 0 {
			t.Error("a copy without power has some")
		}
		h.Crash(nil, 1)
		lists(t, h, "a", "b")
		has(t, h, "a", []byte("old"))
		off.Crash([]bool{true}, 2)
		lists(t, off, "b", "c")
		has(t, off, "c", []byte("now"))
	}
}

// P6.3: what is done to one is not done to its copy, nor the other way.
func TestCopyIsAnother(t *testing.T) {
	for swap := range 2 {
		f := one(t)
		wrote(t, f, "a", []byte("now"))
		fine(t, f.Make("b"), f.Make("c"))
		g := f.Copy()
		if swap == 1 {
			f, g = g, f
		}
		fine(t, f.Write("a", 0, wild(600)), f.Write("b", 0, wild(600)), f.Sync("a"), f.Drop("c"), f.Make("d"), f.Rename("b", "e"))
		lists(t, g, "a", "b", "c")
		has(t, g, "a", []byte("now"))
		has(t, g, "b", nil)
		free(t, g, 1<<20-3)
		fine(t, g.Rename("c", "f"), g.Make("h"), f.SyncDir())
		f.Fuse(0)
		tells(t, api.ErrOff, f.SyncDir())
		fine(t, g.Sync("b"))
		g.Crash(nil, 3)
		lists(t, g, "a", "b", "f")
		has(t, g, "a", []byte("old"))
		if !f.Off() {
			t.Error("power of one is back by a crash of the other")
		}
		f.Crash(nil, 0)
		lists(t, f, "a", "d", "e")
		has(t, f, "a", wild(600))
		has(t, f, "e", nil)
	}
}

// P6.3: what becomes pending in one is not pending in its copy, however much
// was pending in both.
func TestCopyHasItsOwnPending(t *testing.T) {
	for n := range 20 {
		f := one(t)
		for i := range n {
			fine(t, f.Make("f"+strconv.Itoa(i)))
		}
		want := f.Names()
		g := f.Copy()
		fine(t, f.Make("x"), g.Rename("a", "y"), f.Rename("a", "z"), g.Make("w"))
		f.Crash(nil, n)
		lists(t, f, want...)
		g.Crash(nil, n)
		lists(t, g, want...)
		has(t, g, "a", []byte("old"))
	}
}

// P6.3: files are as old in a copy as in the first, and new ones are younger.
func TestCopyKeepsTheOrder(t *testing.T) {
	f := with(t, "z", "a")
	g := f.Copy()
	fine(t, g.Make("m"), g.SyncDir())
	for _, name := range []string{"a", "m", "z"} {
		wrote(t, g, name, wild(10))
	}
	for i, name := range []string{"z", "a", "m"} {
		h := g.Copy()
		h.Crash(bits(1<<i, 3), 0)
		for _, other := range []string{"z", "a", "m"} {
			b, _ := h.All(other)
			if bytes.Equal(b, wild(10)) != (other == name) {
				t.Errorf("keep %d: %q has %x", i, other, b)
			}
		}
	}
	if l := f.Names(); !slices.Equal(l, []string{"a", "z"}) {
		t.Errorf("Names: %q", l)
	}
}
