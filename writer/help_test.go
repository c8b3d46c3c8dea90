package writer

import (
	"bytes"
	"strconv"
	"testing"

	"diurnal/api"
	"diurnal/arena"
	"diurnal/head"
	"diurnal/simfs"
)

// conf answers what a journal of so many slots is made with.
func conf(dataSlots, fieldSlots int) Config {
	return Config{File: api.ID{1, 2, 3}, Machine: api.ID{4}, Seq: api.ID{5, 6}, DataSlots: dataSlots, FieldSlots: fieldSlots, Most: api.MaxFile}
}

// empty answers a new directory of that room.
func empty(t *testing.T, room int) *simfs.FS {
	t.Helper()
	fs, code := simfs.New(room)
	if code != api.Fine {
		t.Fatalf("New(%d): %d", room, code)
	}
	return fs
}

// begun answers a new journal in the file j of a directory with much room.
func begun(t *testing.T, c Config, after uint64) (*simfs.FS, *Writer) {
	t.Helper()
	return begunIn(t, api.MaxRoom, c, after)
}

// begunIn answers a new journal in the file j of a directory of that room.
func begunIn(t *testing.T, room int, c Config, after uint64) (*simfs.FS, *Writer) {
	t.Helper()
	fs := empty(t, room)
	w, code := Create(fs, "j", c, after)
	if code != api.Fine || w == nil {
		t.Fatalf("Create: %v, %d", w, code)
	}
	return fs, w
}

// pairs answers the fields of these payloads, as they are laid: a name of one
// letter, and what stands behind it.
func pairs(l ...string) []api.Pair {
	var out []api.Pair
	for _, s := range l {
		out = append(out, api.Pair{Name: s[:1], Value: s[1:]})
	}
	return out
}

// boot answers the ID of the n-th boot.
func boot(n int) api.ID {
	return api.ID{0xb0, byte(n)}
}

// appended tells where w does not take an entry of these fields.
func appended(t *testing.T, w *Writer, l ...string) {
	t.Helper()
	want := w.Tail() + 1
	if n, code := w.Append(pairs(l...), want*10, want*100, boot(int(want))); code != api.Fine || n != want {
		t.Fatalf("Append of %q: %d, %d; want %d", l, n, code, want)
	}
}

// refused tells where w takes an entry, does not tell that code, or is another
// one behind it.
func refused(t *testing.T, w *Writer, l []api.Pair, want int) {
	t.Helper()
	image, tail, waiting := w.Image(), w.Tail(), w.Waiting()
	if n, code := w.Append(l, 1, 2, boot(3)); n != 0 || code != want {
		t.Errorf("Append of %d fields: %d, %d; want %d", len(l), n, code, want)
	}
	if !bytes.Equal(image, w.Image()) || tail != w.Tail() || waiting != w.Waiting() {
		t.Errorf("Append that told %d changed the journal", want)
	}
}

// tells where a code is not that which is wanted.
func tells(t *testing.T, what string, code, want int) {
	t.Helper()
	if code != want {
		t.Errorf("%s: %d; want %d", what, code, want)
	}
}

// has tells where that file has other bytes than b.
func has(t *testing.T, fs *simfs.FS, name string, b []byte) {
	t.Helper()
	if got, code := fs.All(name); code != api.Fine || !bytes.Equal(got, b) {
		t.Errorf("%q has %d bytes, %d; want these %d", name, len(got), code, len(b))
	}
}

// isSafe tells where a crash leaves other bytes than b in that file; its name
// stays.
func isSafe(t *testing.T, fs *simfs.FS, name string, b []byte) {
	t.Helper()
	other := fs.Copy()
	other.Crash(nil, 1000)
	has(t, other, name, b)
}

// headOf answers the head of the journal's image.
func headOf(t *testing.T, w *Writer) head.Head {
	t.Helper()
	return opened(t, w.Image()).Head()
}

// opened answers a view of b.
func opened(t *testing.T, b []byte) *arena.View {
	t.Helper()
	v, code := arena.Open(b)
	if code != api.Fine {
		t.Fatalf("Open of %d bytes: %d", len(b), code)
	}
	return v
}

// filled leaves so much room in fs, by files of its own.
func filled(t *testing.T, fs *simfs.FS, free int) {
	t.Helper()
	for i := 0; fs.Free() > free; i++ {
		name := "filler" + strconv.Itoa(i)
		n := min(fs.Free()-free, api.MaxFile)
		if fs.Make(name) != api.Fine || fs.Write(name, 0, make([]byte, n)) != api.Fine {
			t.Fatalf("no %d bytes are left of %d", free, fs.Free())
		}
	}
	if fs.Free() != free {
		t.Fatalf("%d bytes are left; want %d", fs.Free(), free)
	}
}

// dice answers numbers that are as good as thrown, the same ones each time.
func dice(seed uint64) func(n int) int {
	state := seed*0x9e3779b97f4a7c15 + 1
	return func(n int) int {
		state = state*6364136223846793005 + 1442695040888963407
		return int(state >> 33 % uint64(n))
	}
}
