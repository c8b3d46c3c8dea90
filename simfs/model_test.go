package simfs

import (
	"slices"
	"strings"
	"testing"

	"diurnal/api"
	"diurnal/sect"
)

// entry is a file of a plain directory, under its name.
type entry struct {
	name string
	file *sect.File
}

// plain is a directory of the chapter's words: its files from the oldest to the
// youngest, and how they stood ahead of each thing that is pending.
type plain struct {
	room  int
	files []entry
	ahead [][]entry
	fuse  int
	off   bool
}

func (p *plain) find(name string) int {
	return slices.IndexFunc(p.files, func(e entry) bool { return e.name == name })
}

func (p *plain) bytes() int {
	n := 0
	for _, e := range p.files {
		n += e.file.Len()
	}
	return n
}

// without answers all files but that of one name.
func (p *plain) without(name string) []entry {
	return slices.DeleteFunc(slices.Clone(p.files), func(e entry) bool { return e.name == name })
}

// do does what the calls of a fuse do: it is asked for the code, and then to do
// it.
func (p *plain) do(code int, what func()) int {
	switch {
	case p.off:
		return api.ErrOff
	case code != api.Fine:
		return code
	case p.fuse == 0:
		p.off = true
		return api.ErrOff
	}
	p.fuse--
	what()
	return api.Fine
}

// turn makes those the files, and keeps how it was.
func (p *plain) turn(files []entry) {
	p.ahead = append(p.ahead, slices.Clone(p.files))
	p.files = files
}

// wrong tells the code of those names, and of the first of them if it is not
// there.
func (p *plain) wrong(names ...string) int {
	for _, name := range names {
		if name == "" || len(name) > 96 || strings.ContainsAny(name, " \x7f") {
			return api.ErrArg
		}
	}
	if p.find(names[0]) < 0 {
		return api.ErrNone
	}
	return api.Fine
}

func (p *plain) make(name string) int {
	code := p.wrong(name)
	switch {
	case code == api.Fine:
		code = api.ErrExist
	case code == api.ErrNone && len(p.files) == 24:
		code = api.ErrFull
	case code == api.ErrNone:
		code = api.Fine
	}
	return p.do(code, func() {
		p.turn(append(slices.Clone(p.files), entry{name, sect.New()}))
	})
}

func (p *plain) write(name string, at int, b []byte) int {
	code := p.wrong(name)
	var file *sect.File
	if code == api.Fine {
		file = p.files[p.find(name)].file
		tried := file.Copy()
		code = tried.Write(at, b)
		more := tried.Len() - file.Len()
		if code == api.Fine && more > 0 && p.bytes()+more > p.room {
			code = api.ErrFull
		}
	}
	return p.do(code, func() { file.Write(at, b) })
}

func (p *plain) sync(name string) int {
	return p.do(p.wrong(name), func() { p.files[p.find(name)].file.Sync() })
}

func (p *plain) drop(name string) int {
	return p.do(p.wrong(name), func() { p.turn(p.without(name)) })
}

func (p *plain) rename(old, name string) int {
	return p.do(p.wrong(old, name), func() {
		if old != name {
			files := p.without(name)
			files[slices.IndexFunc(files, func(e entry) bool { return e.name == old })].name = name
			p.turn(files)
		}
	})
}

func (p *plain) syncDir() int {
	return p.do(api.Fine, func() { p.ahead = nil })
}

func (p *plain) crash(keep []bool, dirs int) {
	if dirs = max(dirs, 0); dirs < len(p.ahead) {
		p.files = p.ahead[dirs]
	}
	p.ahead, p.fuse, p.off = nil, -1, false
	for _, e := range p.files {
		n := len(e.file.Dirty())
		for len(keep) < n {
			keep = append(keep, false)
		}
		e.file.Crash(keep[:n])
		keep = keep[n:]
	}
}

// same tells where f is another than p.
func same(t *testing.T, f *FS, p *plain) {
	t.Helper()
	if f.Off() != p.off {
		t.Errorf("Off: %v", f.Off())
	}
	if p.off {
		lists(t, f)
		free(t, f, 0)
		return
	}
	var names []string
	for _, e := range p.files {
		names = append(names, e.name)
		has(t, f, e.name, e.file.All())
	}
	slices.Sort(names)
	lists(t, f, names...)
	free(t, f, max(p.room-p.bytes(), 0))
}

// dice answers numbers that are as good as thrown, the same ones each time.
func dice(seed uint64) func(n int) int {
	return func(n int) int {
		seed = seed*6364136223846793005 + 1442695040888963407
		return int(seed >> 33 % uint64(n))
	}
}

// step does one thing to both, and tells where they tell other codes.
func step(t *testing.T, f *FS, p *plain, names []string, throw func(n int) int, some []byte) {
	t.Helper()
	name, other := names[throw(len(names))], names[throw(len(names))]
	switch throw(16) {
	case 0, 1, 2:
		tells(t, p.make(name), f.Make(name))
	case 3, 4, 5, 6:
		at, b := throw(1100)-20, some[throw(3000):][:throw(900)]
		tells(t, p.write(name, at, b), f.Write(name, at, b))
	case 7, 8:
		tells(t, p.sync(name), f.Sync(name))
	case 9, 10:
		tells(t, p.drop(name), f.Drop(name))
	case 11, 12:
		tells(t, p.rename(name, other), f.Rename(name, other))
	case 13:
		tells(t, p.syncDir(), f.SyncDir())
	case 14:
		n := throw(30) - 10
		f.Fuse(n)
		p.fuse = n
	default:
		keep, dirs := bits(throw(1<<30), throw(30)), throw(9)-1
		f.Crash(slices.Clone(keep), dirs)
		p.crash(keep, dirs)
	}
}

// rows does long rows of things to both, with many files or with few; every
// now and then with a copy in place of the first.
func rows(t *testing.T, names []string, room int) {
	t.Helper()
	some := wild(4000)
	for seed := range uint64(60) {
		throw := dice(seed)
		f, p := empty(t, room), &plain{room: room, fuse: -1}
		for range 120 {
			if throw(10) == 0 {
				f = f.Copy()
			}
			step(t, f, p, names, throw, some)
			same(t, f, p)
			if t.Failed() {
				t.Fatalf("seed %d", seed)
			}
		}
	}
}

// P6.1, P6.2, P6.3: whatever is done, one thing behind the other, the directory
// is what the chapter's words make of it.
func TestDirectoryIsAsReckonedPlainly(t *testing.T) {
	rows(t, []string{"c", "a", "d", "b", "", "x y"}, 4096)
	rows(t, []string{"c", "a", "d", "b", "ab", "B"}, 8192)
	var many []string
	for i := range 60 {
		many = append(many, string([]byte{byte('A' + i*7%26), byte('0' + i)}))
	}
	rows(t, many, 5000)
}
