package sect

import (
	"slices"
	"testing"
)

// settled tells where f does not have b, all of it safe.
func settled(t *testing.T, f *File, b []byte) {
	t.Helper()
	has(t, f, b)
	safely(t, f, b)
	dirty(t, f)
}

// bits answers the n lowest bits of v, the lowest first.
func bits(v, n int) []bool {
	l := make([]bool, n)
	for i := range l {
		l[i] = v>>i&1 == 1
	}
	return l
}

// P5.3: the chapter's example.
func TestCrashOfTheExample(t *testing.T) {
	f := New()
	wrote(t, f, 600, []byte("x"))
	f.Crash([]bool{false, true})
	settled(t, f, with(nil, 600, []byte("x")))
}

// P5.3: with all dirty sectors kept the file is as it was, with none as safe.
func TestCrashKeepsAllOrNone(t *testing.T) {
	for _, was := range []int{0, 1, 511, 512, 600, 1024, 3000} {
		for _, now := range []int{0, 1, 511, 512, 600, 1024, 3000, 32768} {
			f := synced(t, wild(was))
			wrote(t, f, 0, make([]byte, now))
			g := f.Copy()
			f.Crash(bits(-1, 64))
			settled(t, f, with(wild(was), 0, make([]byte, now)))
			g.Crash(nil)
			settled(t, g, wild(was))
		}
	}
}

// P5.3: a crash of what is safe changes nothing, whatever is kept.
func TestCrashOfNothingDirty(t *testing.T) {
	for _, n := range []int{0, 1, 512, 513, 32768} {
		for _, keep := range [][]bool{nil, {}, {true}, {false}, {false, true}, bits(-1, 100)} {
			f := synced(t, wild(n))
			f.Crash(keep)
			settled(t, f, wild(n))
		}
	}
}

// P5.3: keep goes by dirty sectors, not by all: here 1 and 3 of 5.
func TestCrashCountsDirtySectors(t *testing.T) {
	for keep, want := range map[int][]int{0: nil, 1: {1}, 2: {3}, 3: {1, 3}, 4: nil, 28: nil, 29: {1}, 30: {3}} {
		f := synced(t, wild(2100))
		wrote(t, f, 515, []byte{0})
		wrote(t, f, 1537, []byte{0, 0})
		dirty(t, f, 1, 3)
		f.Crash(bits(keep, 5))
		b := wild(2100)
		if slices.Contains(want, 1) {
			b[515] = 0
		}
		if slices.Contains(want, 3) {
			b[1537], b[1538] = 0, 0
		}
		settled(t, f, b)
	}
}

// P5.3: a keep that is too short keeps no more than it has.
func TestCrashOfShortKeep(t *testing.T) {
	for n := range 6 {
		f := synced(t, wild(2100))
		wrote(t, f, 0, make([]byte, 2100))
		f.Crash(bits(-1, n))
		settled(t, f, with(wild(2100), 0, make([]byte, min(512*n, 2100))))
	}
}

// P5.3: the last sector that has any bytes ends the file, those that are lost
// ahead of it are filled up with 0.
func TestCrashOfNewSectors(t *testing.T) {
	for v := range 32 {
		f := written(t, wild(2100))
		f.Crash(bits(v, 5))
		var b []byte
		for i, kept := range bits(v, 5) {
			if kept {
				b = with(b, 512*i, wild(2100)[512*i:min(512*i+512, 2100)])
			}
		}
		settled(t, f, b)
	}
}

// P5.3: a sector that had fewer bytes has those again: it ends the file, or is
// filled up, if one behind it stays.
func TestCrashOfAPieceOfASector(t *testing.T) {
	grown := func() *File {
		f := synced(t, wild(600))
		wrote(t, f, 600, wild(3000)[600:])
		dirty(t, f, 1, 2, 3, 4, 5)
		return f
	}
	for keep, want := range map[int][]byte{
		0:  wild(600),
		1:  wild(1024),
		2:  with(wild(600), 1024, wild(3000)[1024:1536]),
		3:  wild(1536),
		8:  with(wild(600), 2048, wild(3000)[2048:2560]),
		9:  with(wild(1024), 2048, wild(3000)[2048:2560]),
		16: with(wild(600), 2560, wild(3000)[2560:]),
		30: with(wild(600), 1024, wild(3000)[1024:]),
		31: wild(3000),
	} {
		f := grown()
		f.Crash(bits(keep, 5))
		settled(t, f, want)
	}
}

// P5.3: the last sector of a file has fewer bytes again, or as many as it has
// now: nothing is filled up behind the end.
func TestCrashOfTheLastSector(t *testing.T) {
	f := synced(t, wild(530))
	wrote(t, f, 530, wild(10))
	g := f.Copy()
	f.Crash([]bool{false})
	settled(t, f, wild(530))
	g.Crash([]bool{true})
	settled(t, g, append(wild(530), wild(10)...))
}

// P5.3: a sector of noughts that stays has bytes: it ends the file.
func TestCrashKeepsNoughts(t *testing.T) {
	f := written(t, make([]byte, 1600))
	f.Crash(bits(2, 4))
	settled(t, f, make([]byte, 1024))
	f = written(t, make([]byte, 1600))
	f.Crash(bits(8, 4))
	settled(t, f, make([]byte, 1600))
}

// P5.3: behind a crash the file goes on, the next crash by what is safe since.
func TestCrashAfterCrash(t *testing.T) {
	f := written(t, wild(1600))
	f.Crash(bits(1, 4))
	settled(t, f, wild(512))
	wrote(t, f, 700, wild(1600)[700:])
	dirty(t, f, 1, 2, 3)
	f.Crash(bits(4, 3))
	settled(t, f, with(wild(512), 1536, wild(1600)[1536:]))
	wrote(t, f, 1024, []byte{5})
	f.Crash(nil)
	settled(t, f, with(wild(512), 1536, wild(1600)[1536:]))
	wrote(t, f, 0, []byte{0})
	f.Sync()
	f.Crash(nil)
	settled(t, f, with(with(wild(512), 0, []byte{0}), 1536, wild(1600)[1536:]))
}

// P0.4: keep is neither changed nor kept, and what lies behind its length not
// read.
func TestCrashLeavesKeepAlone(t *testing.T) {
	room := bits(-1, 8)
	f := written(t, wild(2100))
	f.Crash(room[:2])
	settled(t, f, wild(1024))
	if !slices.Equal(room, bits(-1, 8)) {
		t.Errorf("Crash changed what it was handed: %v", room)
	}
	clear(room)
	settled(t, f, wild(1024))
}

// P5.3: a copy is the same in all: the bytes, what is safe, what a crash
// leaves.
func TestCopyIsTheSame(t *testing.T) {
	for _, was := range []int{0, 1, 512, 600, 3000} {
		for v := range 64 {
			f := synced(t, wild(was))
			wrote(t, f, 0, make([]byte, 2700))
			g := f.Copy()
			has(t, g, f.All())
			safely(t, g, wild(was))
			dirty(t, g, f.Dirty()...)
			f.Crash(bits(v, 6))
			g.Crash(bits(v, 6))
			settled(t, g, f.All())
		}
	}
	settled(t, New().Copy(), nil)
}

// P5.3: a copy is another one: what is done to the one the other does not see.
func TestCopyIsAnother(t *testing.T) {
	for _, c := range []struct {
		name string
		do   func(f *File)
	}{
		{"Write", func(f *File) { f.Write(0, make([]byte, 700)) }},
		{"Write behind the end", func(f *File) { f.Write(700, []byte{9}) }},
		{"Sync", func(f *File) { f.Sync() }},
		{"Write and Sync", func(f *File) { f.Write(0, make([]byte, 700)); f.Sync() }},
		{"Crash of all", func(f *File) { f.Crash(nil) }},
		{"Crash", func(f *File) { f.Crash([]bool{true}) }},
	} {
		for turn := range 2 {
			f := synced(t, wild(520))
			wrote(t, f, 520, wild(700)[520:])
			g := f.Copy()
			if turn == 1 {
				f, g = g, f
			}
			c.do(f)
			wrote(t, g, 700, []byte{3})
			t.Run(c.name, func(t *testing.T) {
				has(t, g, append(wild(700), 3))
				safely(t, g, wild(520))
				dirty(t, g, 1)
			})
		}
	}
}
