package simfs

import (
	"bytes"
	"math"
	"slices"
	"strconv"
	"strings"
	"testing"

	"diurnal/api"
)

// P6.1: a room from MinRoom to MaxRoom, and no other; the directory is empty,
// and has power.
func TestNewOfEachRoom(t *testing.T) {
	for _, room := range []int{4096, 4097, 5000, 1<<20 - 1, 1 << 20} {
		f := empty(t, room)
		lists(t, f)
		free(t, f, room)
		if f.Off() {
			t.Error("a new directory has no power")
		}
		fine(t, f.Make("a"), f.SyncDir())
	}
	for _, room := range []int{math.MinInt, -4096, -1, 0, 1, 4095, 1<<20 + 1, 1 << 32, math.MaxInt} {
		if f, code := New(room); f != nil || code != api.ErrArg {
			t.Errorf("New(%d): %v, %d", room, f, code)
		}
	}
}

// P6.1: a name has bytes from 33 to 126, and no others.
func TestNameOfEachByte(t *testing.T) {
	for c := range 256 {
		want := api.ErrArg
		if c >= 33 && c <= 126 {
			want = api.Fine
		}
		for _, name := range []string{string([]byte{byte(c)}), string([]byte{'x', byte(c)}), string([]byte{byte(c), 'x'}), string([]byte{'x', byte(c), 'x'})} {
			f := empty(t, 4096)
			tells(t, want, f.Make(name))
			if want == api.Fine {
				lists(t, f, name)
			} else {
				lists(t, f)
			}
		}
	}
}

// P6.1: a name has 1 to 96 bytes.
func TestNameOfEachLength(t *testing.T) {
	f := empty(t, 4096)
	all := make([]byte, 0, 94)
	for c := byte(33); c <= 126; c++ {
		all = append(all, c)
	}
	long := strings.Repeat("x", 96)
	fine(t, f.Make(string(all)), f.Make(long), f.Make(long[1:]), f.Make("x"))
	tells(t, api.ErrArg, f.Make(""), f.Make(long+"x"), f.Make(strings.Repeat("x", 100000)), f.Make("\u00e9"), f.Make("\xff\xfe"))
	lists(t, f, string(all), "x", long[1:], long)
}

// P6.1: each call that has a name tells ErrArg of one that is none, ahead of
// all else but ErrOff.
func TestCallsOfWrongNames(t *testing.T) {
	f := with(t, "a")
	for i := range api.MaxFiles - 1 {
		fine(t, f.Make("f"+strconv.Itoa(i)))
	}
	for _, name := range []string{"", " ", "a ", " a", "a\x00", "a\n", "a\x7f", "\u00e9", strings.Repeat("a", 97)} {
		tells(t, api.ErrArg, f.Make(name), f.Write(name, -1, nil), f.Write(name, 1<<40, []byte("x")), f.Sync(name), f.Drop(name),
			f.Rename(name, "a"), f.Rename("a", name), f.Rename("z", name), f.Rename(name, "z"), f.Rename(name, name))
		unread(t, f, name, api.ErrArg)
	}
	if len(f.Names()) != api.MaxFiles {
		t.Errorf("%d files", len(f.Names()))
	}
	has(t, f, "a", nil)
}

// P6.1: each call of a file that is not there tells ErrNone, ahead of the codes
// of sect; Make and Rename onto it do not.
func TestCallsOfNoFile(t *testing.T) {
	f := with(t, "a", "b")
	fine(t, f.Drop("b"))
	for _, name := range []string{"b", "c", "A", "aa", "a.", "0", strings.Repeat("a", 96)} {
		tells(t, api.ErrNone, f.Write(name, -1, nil), f.Write(name, 0, nil), f.Write(name, 1<<40, []byte("x")), f.Write(name, 0, wild(40000)), f.Sync(name), f.Drop(name),
			f.Rename(name, "a"), f.Rename(name, name), f.Rename(name, "z"))
		unread(t, f, name, api.ErrNone)
	}
	lists(t, f, "a")
	fine(t, f.Rename("a", "c"), f.Make("b"))
	lists(t, f, "b", "c")
}

// P6.1: Make makes an empty file; what is there is left as it is.
func TestMake(t *testing.T) {
	f := empty(t, 4096)
	fine(t, f.Make("a"))
	has(t, f, "a", nil)
	wrote(t, f, "a", wild(10))
	tells(t, api.ErrExist, f.Make("a"))
	has(t, f, "a", wild(10))
	fine(t, f.Make("A"), f.Make("aa"))
	has(t, f, "aa", nil)
	has(t, f, "a", wild(10))
	lists(t, f, "A", "a", "aa")
}

// P6.1: MaxFiles files may be there, however many there were; one that is there
// is told ahead of that.
func TestMakeOfTooMany(t *testing.T) {
	f := empty(t, 4096)
	for i := range 24 {
		fine(t, f.Make("f"+strconv.Itoa(i)))
	}
	tells(t, api.ErrFull, f.Make("g"), f.Make("f"))
	tells(t, api.ErrExist, f.Make("f0"), f.Make("f23"))
	tells(t, api.ErrArg, f.Make("f 0"))
	fine(t, f.Drop("f7"), f.Make("g"))
	tells(t, api.ErrFull, f.Make("f7"))
	fine(t, f.Rename("g", "f0"), f.Make("f7"))
	tells(t, api.ErrFull, f.Make("h"))
	fine(t, f.Rename("f0", "h"))
	tells(t, api.ErrFull, f.Make("f0"))
	if len(f.Names()) != 24 {
		t.Errorf("%d files", len(f.Names()))
	}
}

// P6.1: Write lays bytes into that file, and no other; those between the end
// and there are 0.
func TestWrite(t *testing.T) {
	f := with(t, "a", "b")
	fine(t, f.Write("a", 0, []byte("one")), f.Write("b", 2, []byte("two")), f.Write("a", 1, []byte("NE!")), f.Write("a", 6, []byte("x")))
	has(t, f, "a", []byte("oNE!\x00\x00x"))
	has(t, f, "b", []byte("\x00\x00two"))
	free(t, f, 1<<20-12)
	fine(t, f.Write("a", 100, nil), f.Write("a", 32768, nil))
	has(t, f, "a", []byte("oNE!\x00\x00x"))
	fine(t, f.Write("a", 0, wild(32768)))
	has(t, f, "a", wild(32768))
}

// P6.1: the codes of sect, and what is not written changes nothing.
func TestWriteOfWrongPlaces(t *testing.T) {
	f := with(t, "a", "b")
	wrote(t, f, "a", []byte("one"))
	for _, at := range []int{-1, -2, -32768, math.MinInt, math.MinInt + 1} {
		tells(t, api.ErrArg, f.Write("a", at, nil), f.Write("a", at, []byte("x")), f.Write("a", at, wild(40000)))
	}
	for _, at := range []int{32769, 1 << 20, 1 << 32, math.MaxInt - 1, math.MaxInt} {
		tells(t, api.ErrFull, f.Write("a", at, nil), f.Write("a", at, []byte("x")), f.Write("a", at, wild(40000)))
	}
	tells(t, api.ErrFull, f.Write("a", 32768, []byte("x")), f.Write("a", 0, wild(32769)), f.Write("a", 1, wild(32768)))
	has(t, f, "a", []byte("one"))
	free(t, f, 1<<20-3)
	lists(t, f, "a", "b")
}

// P6.1: all files together have no more bytes than room, 0 that lie between
// counted as others.
func TestWriteOfTheLastRoom(t *testing.T) {
	f := empty(t, 4096)
	fine(t, f.Make("a"), f.Make("b"))
	tells(t, api.ErrFull, f.Write("a", 0, wild(4097)), f.Write("a", 4096, []byte("x")), f.Write("a", 32767, []byte("x")), f.Write("a", 4000, wild(97)))
	has(t, f, "a", nil)
	free(t, f, 4096)
	fine(t, f.Write("a", 3999, []byte("x")))
	free(t, f, 96)
	tells(t, api.ErrFull, f.Write("b", 0, wild(97)), f.Write("b", 96, []byte("x")), f.Write("a", 3990, wild(107)))
	has(t, f, "b", nil)
	fine(t, f.Write("b", 0, wild(96)))
	free(t, f, 0)
	tells(t, api.ErrFull, f.Write("b", 96, []byte("x")), f.Write("a", 3999, []byte("xy")))
	has(t, f, "b", wild(96))
}

// P6.1: of a file that would not be longer the room is not asked; nor of a
// Write of nothing; the codes of sect come ahead of it.
func TestWriteWithoutRoom(t *testing.T) {
	f := empty(t, 4096)
	fine(t, f.Make("a"), f.Make("b"), f.Write("a", 0, wild(4000)), f.Write("b", 0, wild(96)))
	fine(t, f.Write("a", 0, make([]byte, 4000)), f.Write("b", 95, []byte("x")), f.Write("a", 4000, nil), f.Write("b", 5000, nil), f.Write("b", 32768, nil))
	has(t, f, "a", make([]byte, 4000))
	tells(t, api.ErrArg, f.Write("a", -1, wild(5000)), f.Write("a", math.MinInt, nil), f.Write("b", -1, wild(50000)))
	tells(t, api.ErrFull, f.Write("b", 32769, nil), f.Write("b", math.MaxInt, nil))
	fine(t, f.Drop("a"), f.Write("b", 96, wild(4000)))
	free(t, f, 0)
}

// P6.1: files that a crash brought back may have more than room: nothing is
// free then, and no file may be longer.
func TestWriteBeyondTheRoom(t *testing.T) {
	f := empty(t, 4096)
	fine(t, f.Make("a"), f.Make("b"), f.SyncDir())
	safely(t, f, "a", wild(4000))
	fine(t, f.Drop("a"))
	safely(t, f, "b", wild(4000))
	free(t, f, 96)
	f.Crash(nil, 0)
	lists(t, f, "a", "b")
	has(t, f, "a", wild(4000))
	has(t, f, "b", wild(4000))
	free(t, f, 0)
	tells(t, api.ErrFull, f.Write("a", 4000, []byte("x")), f.Write("b", 3999, []byte("xy")))
	fine(t, f.Write("a", 3999, []byte("x")), f.Write("b", 0, make([]byte, 4000)), f.Write("a", 9999, nil))
	fine(t, f.Make("c"), f.Drop("b"))
	free(t, f, 96)
}

// P6.1: Read, All and Len answer what that file has, and tell what sect tells.
func TestReadAllLen(t *testing.T) {
	f := with(t, "a", "b")
	wrote(t, f, "a", wild(600))
	has(t, f, "a", wild(600))
	has(t, f, "b", nil)
	for _, c := range [][2]int{{0, 0}, {0, 1}, {0, 600}, {1, 599}, {599, 1}, {600, 0}, {511, 2}} {
		b, code := f.Read("a", c[0], c[1])
		if code != api.Fine || !bytes.Equal(b, wild(600)[c[0]:c[0]+c[1]]) {
			t.Errorf("Read(%d, %d): %d bytes, %d", c[0], c[1], len(b), code)
		}
	}
	for _, c := range [][3]int{
		{-1, 0, api.ErrArg}, {0, -1, api.ErrArg}, {-1, 601, api.ErrArg}, {1000, -1, api.ErrArg}, {math.MinInt, math.MaxInt, api.ErrArg},
		{0, 601, api.ErrRange}, {600, 1, api.ErrRange}, {601, 0, api.ErrRange}, {math.MaxInt, math.MaxInt, api.ErrRange},
	} {
		b, code := f.Read("a", c[0], c[1])
		if code != c[2] || b != nil {
			t.Errorf("Read(%d, %d): %x, %d", c[0], c[1], b, code)
		}
	}
	if b, code := f.Read("b", 0, 1); code != api.ErrRange || b != nil {
		t.Errorf("Read of an empty file: %x, %d", b, code)
	}
}

// P6.1: Sync makes that file safe, and no other.
func TestSync(t *testing.T) {
	f := with(t, "a", "b")
	wrote(t, f, "a", wild(600))
	wrote(t, f, "b", wild(700))
	fine(t, f.Sync("a"))
	wrote(t, f, "a", make([]byte, 900))
	f.Crash(nil, 0)
	has(t, f, "a", wild(600))
	has(t, f, "b", nil)
}

// P6.1: a file that is renamed has its bytes under the new name alone; another
// one that had it is not there any more.
func TestRename(t *testing.T) {
	f := with(t, "a", "b", "c")
	wrote(t, f, "a", []byte("one"))
	wrote(t, f, "b", []byte("two!"))
	fine(t, f.Rename("a", "d"))
	lists(t, f, "b", "c", "d")
	has(t, f, "d", []byte("one"))
	tells(t, api.ErrNone, f.Sync("a"))
	fine(t, f.Rename("d", "b"))
	lists(t, f, "b", "c")
	has(t, f, "b", []byte("one"))
	free(t, f, 1<<20-3)
	fine(t, f.Make("a"), f.Make("d"))
	has(t, f, "a", nil)
	has(t, f, "d", nil)
	has(t, f, "b", []byte("one"))
	fine(t, f.Write("b", 3, []byte("!")))
	has(t, f, "b", []byte("one!"))
}

// P6.1: a file onto itself stays as it is.
func TestRenameOntoItself(t *testing.T) {
	f := with(t, "a", "b")
	wrote(t, f, "a", []byte("one"))
	fine(t, f.Rename("a", "a"), f.Rename("b", "b"))
	lists(t, f, "a", "b")
	has(t, f, "a", []byte("one"))
	has(t, f, "b", nil)
	tells(t, api.ErrNone, f.Rename("c", "c"))
}

// P6.1: a full directory has room for other names, not for more.
func TestRenameInAFullDirectory(t *testing.T) {
	f := empty(t, 4096)
	for i := range 24 {
		fine(t, f.Make("f"+strconv.Itoa(i)))
	}
	fine(t, f.Rename("f0", "g"), f.Rename("g", "f1"))
	if l := f.Names(); len(l) != 23 || slices.Contains(l, "f0") || slices.Contains(l, "g") {
		t.Errorf("Names: %q", l)
	}
}

// P6.1: what is dropped is not there any more, and its room is free; a new file
// of its name has none of its bytes.
func TestDrop(t *testing.T) {
	f := with(t, "a", "b")
	wrote(t, f, "a", wild(600))
	wrote(t, f, "b", wild(50))
	fine(t, f.Drop("a"))
	lists(t, f, "b")
	free(t, f, 1<<20-50)
	tells(t, api.ErrNone, f.Drop("a"), f.Write("a", 0, nil))
	fine(t, f.Make("a"))
	has(t, f, "a", nil)
	has(t, f, "b", wild(50))
	fine(t, f.Drop("a"), f.Drop("b"))
	lists(t, f)
	free(t, f, 1<<20)
}

// P6.1: the names are told by bytes, in whatever order they were made.
func TestNamesByBytes(t *testing.T) {
	want := []string{"!", "-", "0", "10", "9", "A", "B", "Z", "a", "a!", "a.b", "aa", "ab", "b", "~"}
	for shift := range want {
		f := empty(t, 4096)
		for i := range want {
			fine(t, f.Make(want[(shift+i*7)%len(want)]))
		}
		lists(t, f, want...)
		fine(t, f.Rename("!", "~~"))
		lists(t, f, append(slices.Clone(want[1:]), "~~")...)
	}
}

// P6.1: without power each call that tells codes tells ErrOff, were the name
// none as well; there are no names, and nothing is free.
func TestCallsWithoutPower(t *testing.T) {
	f := with(t, "a")
	wrote(t, f, "a", []byte("one"))
	f.Fuse(0)
	tells(t, api.ErrOff, f.SyncDir())
	for _, name := range []string{"a", "b", "", "a b"} {
		tells(t, api.ErrOff, f.Make(name), f.Write(name, 0, []byte("x")), f.Write(name, -1, nil), f.Sync(name), f.Drop(name),
			f.Rename(name, "c"), f.Rename("a", name), f.Rename(name, name), f.SyncDir())
		unread(t, f, name, api.ErrOff)
	}
	if l := f.Names(); l != nil {
		t.Errorf("Names: %q", l)
	}
	free(t, f, 0)
	f.Crash([]bool{true}, 0)
	lists(t, f, "a")
	has(t, f, "a", []byte("one"))
}

// P0.4: what is handed in is neither changed nor kept, and nothing behind it is
// read or written.
func TestArgumentsStayTheCallers(t *testing.T) {
	f := with(t, "a")
	room := wild(1000)
	fine(t, f.Write("a", 0, room[100:700]))
	if !bytes.Equal(room, wild(1000)) {
		t.Error("Write changes what it is given, or what lies beside it")
	}
	clear(room)
	has(t, f, "a", wild(1000)[100:700])
	keep := []bool{true, false, true, true}
	f.Crash(keep[:1], 0)
	has(t, f, "a", wild(1000)[100:612])
	if !slices.Equal(keep, []bool{true, false, true, true}) {
		t.Error("Crash changes what it is given, or what lies behind it")
	}
}

// P0.4: each list handed out is new memory, its spare room too.
func TestAnswersShareNoMemory(t *testing.T) {
	f := with(t, "b", "a")
	wrote(t, f, "a", wild(600))
	for name, call := range map[string]func() []byte{
		"All":  func() []byte { b, _ := f.All("a"); return b },
		"Read": func() []byte { b, _ := f.Read("a", 0, 600); return b },
	} {
		one, other := call(), call()
		clear(one[:cap(one)])
		if !bytes.Equal(other, wild(600)) {
			t.Errorf("writing into an answer of %s shows in another one", name)
		}
		has(t, f, "a", wild(600))
	}
	one, other := f.Names(), f.Names()
	clear(one[:cap(one)])
	if !slices.Equal(other, []string{"a", "b"}) {
		t.Errorf("writing into Names shows in another one: %q", other)
	}
	lists(t, f, "a", "b")
}
