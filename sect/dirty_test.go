package sect

import (
	"bytes"
	"slices"
	"testing"
)

// dirty tells where f's dirty sectors are others than those.
func dirty(t *testing.T, f *File, want ...int) {
	t.Helper()
	if got := f.Dirty(); !slices.Equal(got, want) {
		t.Errorf("Dirty: %v; want %v", got, want)
	}
}

// upTo answers the numbers from 0 to n - 1.
func upTo(n int) []int {
	var l []int
	for i := range n {
		l = append(l, i)
	}
	return l
}

// synced answers a file of those bytes, all safe.
func synced(t *testing.T, b []byte) *File {
	t.Helper()
	f := written(t, b)
	f.Sync()
	return f
}

// P5.2: at first nothing is safe, and nothing dirty.
func TestNewFileIsSafe(t *testing.T) {
	f := New()
	safely(t, f, nil)
	dirty(t, f)
	f.Sync()
	has(t, f, nil)
	safely(t, f, nil)
	dirty(t, f)
}

// P5.2: Safe is what was there at the last Sync, whatever is written since.
func TestSafeIsAsAtTheLastSync(t *testing.T) {
	f := written(t, wild(600))
	safely(t, f, nil)
	f.Sync()
	safely(t, f, wild(600))
	has(t, f, wild(600))
	wrote(t, f, 3, make([]byte, 20))
	safely(t, f, wild(600))
	wrote(t, f, 1000, wild(2000))
	safely(t, f, wild(600))
	f.Sync()
	safely(t, f, with(with(wild(600), 3, make([]byte, 20)), 1000, wild(2000)))
	has(t, f, f.Safe())
	f.Sync()
	has(t, f, f.Safe())
}

// P5.2: of each length each sector is dirty till Sync, and the last one may
// have fewer bytes.
func TestDirtyOfEachLength(t *testing.T) {
	for _, c := range [][2]int{{0, 0}, {1, 1}, {511, 1}, {512, 1}, {513, 2}, {1023, 2}, {1024, 2}, {1025, 3}, {5000, 10}, {32256, 63}, {32257, 64}, {32767, 64}, {32768, 64}} {
		f := written(t, wild(c[0]))
		dirty(t, f, upTo(c[1])...)
		f.Sync()
		dirty(t, f)
	}
}

// P5.2: noughts that were not there make a sector dirty as other bytes do.
func TestDirtyOfNoughts(t *testing.T) {
	f := written(t, make([]byte, 1300))
	dirty(t, f, 0, 1, 2)
	f = New()
	wrote(t, f, 2000, []byte{0})
	dirty(t, f, 0, 1, 2, 3)
}

// P5.2: one byte makes its own sector dirty, and no other.
func TestDirtyByOneByte(t *testing.T) {
	for at := range 1600 {
		f := synced(t, wild(1600))
		wrote(t, f, at, []byte{0})
		dirty(t, f, at/512)
	}
}

// P5.2: the same bytes again, or the old ones put back, or nothing, make none
// dirty.
func TestNotDirtyBySameBytes(t *testing.T) {
	f := synced(t, wild(1600))
	wrote(t, f, 0, wild(1600))
	dirty(t, f)
	wrote(t, f, 500, make([]byte, 100))
	dirty(t, f, 0, 1)
	wrote(t, f, 500, wild(1600)[500:512])
	dirty(t, f, 1)
	wrote(t, f, 512, wild(1600)[512:600])
	dirty(t, f)
	wrote(t, f, 1700, nil)
	dirty(t, f)
}

// P5.2: how many bytes a sector has counts as well, were they all 0; a whole
// one ahead of it stays as it is.
func TestDirtyByLength(t *testing.T) {
	for _, c := range []struct {
		was, at int
		want    []int
	}{
		{1, 1, []int{0}}, {100, 100, []int{0}}, {100, 511, []int{0}}, {511, 511, []int{0}},
		{512, 512, []int{1}}, {512, 1023, []int{1}}, {512, 1024, []int{1, 2}},
		{511, 512, []int{0, 1}}, {600, 600, []int{1}}, {600, 1100, []int{1, 2}}, {600, 2047, []int{1, 2, 3}},
		{1024, 1600, []int{2, 3}}, {32767, 32767, []int{63}},
	} {
		f := synced(t, make([]byte, c.was))
		wrote(t, f, c.at, []byte{0})
		dirty(t, f, c.want...)
	}
}

// P5.2: the numbers rise, in whatever order the sectors were written.
func TestDirtyRises(t *testing.T) {
	f := synced(t, wild(32768))
	for _, i := range []int{63, 0, 31, 7, 62, 8, 1, 31} {
		wrote(t, f, i*512+i, []byte{0})
	}
	dirty(t, f, 0, 1, 7, 8, 31, 62, 63)
	wrote(t, f, 5*512-1, make([]byte, 514))
	dirty(t, f, 0, 1, 4, 5, 6, 7, 8, 31, 62, 63)
	dirty(t, f, f.Dirty()...)
}

// P5.2: what is not written has made nothing dirty.
func TestDirtyNotByRefusedWrites(t *testing.T) {
	f := synced(t, wild(600))
	f.Write(-1, wild(5))
	f.Write(32768, wild(5))
	f.Write(100, wild(32768))
	f.Write(40000, nil)
	dirty(t, f)
	safely(t, f, wild(600))
	has(t, f, wild(600))
}

// P0.4: the list of numbers is new memory, its spare room too.
func TestDirtySharesNoMemory(t *testing.T) {
	f := written(t, wild(3000))
	one, other := f.Dirty(), f.Dirty()
	clear(one[:cap(one)])
	if !slices.Equal(other, upTo(6)) {
		t.Errorf("writing into one answer shows in the other: %v", other)
	}
	dirty(t, f, upTo(6)...)
}

// P5.2: Sync has what is safe in memory of its own: what is written behind it
// does not show, up to the greatest file.
func TestSyncSharesNoMemory(t *testing.T) {
	f := synced(t, wild(32768))
	wrote(t, f, 0, make([]byte, 32768))
	safely(t, f, wild(32768))
	f.Sync()
	wrote(t, f, 0, wild(32768))
	safely(t, f, make([]byte, 32768))
	if bytes.Equal(f.All(), f.Safe()) {
		t.Error("All is Safe")
	}
}
