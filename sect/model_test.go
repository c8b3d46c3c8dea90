package sect

import "testing"

// absent stands in a plain file where it has no byte.
const absent = -1

// image is what a plain file has at each place, as far as step writes.
type image [15 * 512]int

// plain is a file of the chapter's words, reckoned place by place.
type plain struct {
	now, safe image
}

func newPlain() *plain {
	var p plain
	for at := range p.now {
		p.now[at], p.safe[at] = absent, absent
	}
	return &p
}

// end answers the place behind the last byte.
func (m *image) end() int {
	end := 0
	for at, c := range m {
		if c != absent {
			end = at + 1
		}
	}
	return end
}

// fill lays 0 wherever there is no byte ahead of the end.
func (m *image) fill() {
	for at := range m.end() {
		m[at] = max(m[at], 0)
	}
}

func (m *image) bytes() []byte {
	var b []byte
	for at := range m.end() {
		b = append(b, byte(m[at]))
	}
	return b
}

func (p *plain) write(at int, b []byte) {
	for i, c := range b {
		p.now[at+i] = int(c)
	}
	p.now.fill()
}

func (p *plain) dirty() []int {
	var l []int
	for at := range p.now {
		if p.now[at] != p.safe[at] && (len(l) == 0 || l[len(l)-1] != at/512) {
			l = append(l, at/512)
		}
	}
	return l
}

func (p *plain) crash(keep []bool) {
	next := p.safe
	for i, s := range p.dirty() {
		if i < len(keep) && keep[i] {
			copy(next[512*s:512*s+512], p.now[512*s:512*s+512])
		}
	}
	next.fill()
	p.now, p.safe = next, next
}

// dice answers numbers that are as good as thrown, the same ones each time.
func dice(seed uint64) func(n int) int {
	return func(n int) int {
		seed = seed*6364136223846793005 + 1442695040888963407
		return int(seed >> 33 % uint64(n))
	}
}

// step does one thing to both.
func step(t *testing.T, f *File, p *plain, throw func(n int) int) {
	t.Helper()
	switch throw(8) {
	case 0:
		f.Sync()
		p.safe = p.now
	case 1, 2:
		keep := bits(throw(1<<20), throw(20))
		f.Crash(keep)
		p.crash(keep)
	default:
		at, b := throw(6000), wild(6000)[throw(3000):][:throw(1500)]
		if throw(4) == 0 {
			clear(b)
		}
		if throw(3) == 0 {
			at = at / 512 * 512
		}
		wrote(t, f, at, b)
		p.write(at, b)
	}
}

// P5.1, P5.2, P5.3: whatever is done, one thing behind the other, the file is
// what the chapter's words make of it.
func TestFileIsAsReckonedPlainly(t *testing.T) {
	for seed := range uint64(40) {
		throw := dice(seed)
		f, p := New(), newPlain()
		for range 25 {
			step(t, f, p, throw)
			has(t, f, p.now.bytes())
			safely(t, f, p.safe.bytes())
			dirty(t, f, p.dirty()...)
		}
		if t.Failed() {
			t.Fatalf("seed %d", seed)
		}
	}
}
