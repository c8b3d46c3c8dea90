package simfs

import (
	"bytes"
	"slices"
	"testing"

	"diurnal/api"
)

// wild answers bytes of which none is 0, no two neighbours are like, nor two
// sectors.
func wild(n int) []byte {
	b := make([]byte, n)
	for i := range b {
		b[i] = byte((i*0x9d+i/512*0x25)%255) + 1
	}
	return b
}

// empty answers a new directory of that room.
func empty(t *testing.T, room int) *FS {
	t.Helper()
	f, code := New(room)
	if code != api.Fine || f == nil {
		t.Fatalf("New(%d): %d", room, code)
	}
	return f
}

// with answers a new directory of much room, with empty files of those names,
// none of them pending.
func with(t *testing.T, names ...string) *FS {
	t.Helper()
	f := empty(t, api.MaxRoom)
	for _, name := range names {
		fine(t, f.Make(name))
	}
	fine(t, f.SyncDir())
	return f
}

// fine tells where one of the codes is another.
func fine(t *testing.T, codes ...int) {
	t.Helper()
	tells(t, api.Fine, codes...)
}

// tells where one of the codes is not want.
func tells(t *testing.T, want int, codes ...int) {
	t.Helper()
	for i, code := range codes {
		if code != want {
			t.Errorf("code %d is %d; want %d", i, code, want)
		}
	}
}

// wrote tells where f does not take b at the beginning of that file.
func wrote(t *testing.T, f *FS, name string, b []byte) {
	t.Helper()
	if code := f.Write(name, 0, b); code != api.Fine {
		t.Fatalf("Write of %d bytes to %q: %d", len(b), name, code)
	}
}

// safely tells where f does not take b, made safe, at the beginning of that
// file.
func safely(t *testing.T, f *FS, name string, b []byte) {
	t.Helper()
	wrote(t, f, name, b)
	fine(t, f.Sync(name))
}

// lists tells where f has files of other names.
func lists(t *testing.T, f *FS, want ...string) {
	t.Helper()
	if got := f.Names(); !slices.Equal(got, want) {
		t.Errorf("Names: %q; want %q", got, want)
	}
}

// has tells where that file of f has other bytes than b.
func has(t *testing.T, f *FS, name string, b []byte) {
	t.Helper()
	got, code := f.All(name)
	n, other := f.Len(name)
	if code != api.Fine || other != api.Fine || n != len(b) || !bytes.Equal(got, b) {
		t.Errorf("%q: All of %d bytes, %d; Len %d, %d; want %d bytes", name, len(got), code, n, other, len(b))
	}
}

// unread tells where that file of f is read, or not with that code.
func unread(t *testing.T, f *FS, name string, want int) {
	t.Helper()
	for _, c := range [][2]int{{0, 0}, {0, 1}, {-1, 0}} {
		if b, code := f.Read(name, c[0], c[1]); b != nil || code != want {
			t.Errorf("%q: Read of %v: %x, %d; want %d", name, c, b, code, want)
		}
	}
	if b, code := f.All(name); b != nil || code != want {
		t.Errorf("%q: All: %x, %d; want %d", name, b, code, want)
	}
	if n, code := f.Len(name); n != 0 || code != want {
		t.Errorf("%q: Len: %d, %d; want %d", name, n, code, want)
	}
}

// free tells where f has other room left.
func free(t *testing.T, f *FS, want int) {
	t.Helper()
	if got := f.Free(); got != want {
		t.Errorf("Free: %d; want %d", got, want)
	}
}

// bits answers the n lowest bits of v, the lowest first.
func bits(v, n int) []bool {
	l := make([]bool, n)
	for i := range l {
		l[i] = v>>i&1 == 1
	}
	return l
}

// change is one of the calls that a fuse counts.
type change struct {
	name string
	call func(f *FS) int
}

// changes answers calls of each kind that tell Fine where there is a file a,
// and none b.
func changes() []change {
	return []change{
		{"Make", func(f *FS) int { return f.Make("b") }},
		{"Write", func(f *FS) int { return f.Write("a", 0, []byte("new")) }},
		{"Write of nothing", func(f *FS) int { return f.Write("a", 9, nil) }},
		{"Sync", func(f *FS) int { return f.Sync("a") }},
		{"Rename", func(f *FS) int { return f.Rename("a", "b") }},
		{"Rename onto itself", func(f *FS) int { return f.Rename("a", "a") }},
		{"Drop", func(f *FS) int { return f.Drop("a") }},
		{"SyncDir", func(f *FS) int { return f.SyncDir() }},
	}
}
