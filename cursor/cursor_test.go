package cursor

import (
	"cmp"
	"slices"
	"strings"
	"testing"

	"diurnal/api"
	"diurnal/hash"
)

// someRecord answers a record of which each number is another one.
func someRecord(l ...api.Pair) api.Record {
	return api.Record{Seq: 1, Real: 2, Mono: 3, Boot: api.ID{4, 15: 5}, Fields: l}
}

// P19.1: each part of id and r at its place.
func TestOf(t *testing.T) {
	id := api.ID{6, 15: 7}
	if c := Of(id, someRecord()); c != (Cursor{Seq: id, N: 1, Boot: api.ID{4, 15: 5}, Mono: 3, Real: 2}) {
		t.Errorf("Of a record: %v", c)
	}
	if c := Of(api.ID{}, api.Record{}); c != (Cursor{}) {
		t.Errorf("Of zeros: %v", c)
	}
	for _, v := range numbers() {
		for _, c := range []struct {
			r    api.Record
			want Cursor
		}{
			{api.Record{Seq: v}, Cursor{Seq: id, N: v}},
			{api.Record{Real: v}, Cursor{Seq: id, Real: v}},
			{api.Record{Mono: v}, Cursor{Seq: id, Mono: v}},
		} {
			if got := Of(id, c.r); got != c.want {
				t.Errorf("Of %v: %v; want %v", c.r, got, c.want)
			}
		}
	}
	for _, boot := range ids() {
		if got := Of(id, api.Record{Boot: boot}); got != (Cursor{Seq: id, Boot: boot}) {
			t.Errorf("Of the boot %v: %v", boot, got)
		}
		if got := Of(boot, api.Record{}); got != (Cursor{Seq: boot}) {
			t.Errorf("Of the sequence %v: %v", boot, got)
		}
	}
}

// isXor tells where Of's Xor of these pairs is not the hashes of these texts
// put together.
func isXor(t *testing.T, l []api.Pair, texts ...string) {
	t.Helper()
	given := slices.Clone(l)
	want := Cursor{Seq: api.ID{6}, N: 1, Boot: api.ID{4, 15: 5}, Mono: 3, Real: 2}
	for _, s := range texts {
		want.Xor ^= hash.Lookup([]byte(s))
	}
	if got := Of(api.ID{6}, someRecord(l...)); got != want {
		t.Errorf("Of %.200q: %v; want %v", l, got, want)
	}
	if !slices.Equal(l, given) {
		t.Errorf("Of changed what it was handed: %.200q", l)
	}
}

// P19.1: the fields as Name, `=`, Value, in any order.
func TestOfFields(t *testing.T) {
	a, b, e := api.Pair{Name: "A", Value: "1"}, api.Pair{Name: "B", Value: "x=y"}, api.Pair{Name: "A"}
	isXor(t, nil)
	isXor(t, []api.Pair{})
	isXor(t, []api.Pair{a}, "A=1")
	isXor(t, []api.Pair{b}, "B=x=y")
	isXor(t, []api.Pair{e}, "A=")
	isXor(t, []api.Pair{a, b}, "A=1", "B=x=y")
	isXor(t, []api.Pair{b, a}, "A=1", "B=x=y")
	isXor(t, []api.Pair{e, b, a}, "A=", "A=1", "B=x=y")
	isXor(t, []api.Pair{a, b, e}[:1], "A=1")
	if c := Of(api.ID{}, someRecord(a)); c.Xor != hash.Lookup([]byte("A=1")) || c.Xor == 0 {
		t.Errorf("Xor of one: %x", c.Xor)
	}
}

// P19.1: the fields whatever they are: wrong ones, too many, some twice.
func TestOfWrongFields(t *testing.T) {
	a, b := api.Pair{Name: "A", Value: "1"}, api.Pair{Name: "B", Value: "2"}
	long := strings.Repeat("x", 257)
	isXor(t, []api.Pair{{}}, "=")
	isXor(t, []api.Pair{{Value: "v"}}, "=v")
	isXor(t, []api.Pair{{Name: "a", Value: "b"}}, "a=b")
	isXor(t, []api.Pair{{Name: "A=", Value: "=B"}}, "A===B")
	isXor(t, []api.Pair{{Name: "1 é\x00", Value: "\xff\n"}}, "1 é\x00=\xff\n")
	isXor(t, []api.Pair{{Name: "A", Value: long}}, "A="+long)
	isXor(t, []api.Pair{{Name: strings.Repeat("A", 65), Value: strings.Repeat("v", 1<<20)}}, strings.Repeat("A", 65)+"="+strings.Repeat("v", 1<<20))
	isXor(t, []api.Pair{a, {}, b, {Name: "a"}}, "A=1", "=", "B=2", "a=")
	isXor(t, []api.Pair{a, a})
	isXor(t, []api.Pair{a, b, a}, "B=2")
	isXor(t, []api.Pair{a, a, a}, "A=1")
	isXor(t, []api.Pair{{Name: "A", Value: "=B"}, {Name: "A=", Value: "B"}})
	var l []api.Pair
	var texts []string
	for i := range 300 {
		l = append(l, api.Pair{Name: "N", Value: strings.Repeat("x", i)})
		texts = append(texts, "N="+strings.Repeat("x", i))
		isXor(t, l, texts...)
	}
}

// compared tells where Compare of a and b, either way round, is not want.
func compared(t *testing.T, a, b Cursor, want int) {
	t.Helper()
	if got, back := Compare(a, b), Compare(b, a); got != want || back != -want {
		t.Errorf("Compare of %v, %v: %d, %d; want %d", a, b, got, back, want)
	}
}

// P19.3: of one sequence by N alone.
func TestCompareOfOneSequence(t *testing.T) {
	for _, id := range []api.ID{{}, {9}, {15: 9}} {
		for _, v := range numbers() {
			for _, n := range numbers() {
				// All but N would turn the answer round.
				a := Cursor{Seq: id, N: v, Boot: api.ID{2}, Mono: ^v, Real: ^v, Xor: ^v}
				b := Cursor{Seq: id, N: n, Boot: api.ID{1}, Mono: ^n, Real: ^n, Xor: ^n}
				compared(t, a, b, cmp.Compare(v, n))
			}
		}
		compared(t, Cursor{Seq: id, Real: 1, Mono: 1, Xor: 1, Boot: api.ID{1}}, Cursor{Seq: id}, 0)
	}
}

// P19.3: of two sequences by Real, whatever the rest is.
func TestCompareOfTimes(t *testing.T) {
	for _, v := range numbers() {
		for _, n := range numbers() {
			if v == n {
				continue
			}
			for _, ends := range [][2]api.ID{{{1}, {2}}, {{2}, {1}}, {{}, {15: 1}}, {{15: 1}, {}}} {
				a := Cursor{Seq: ends[0], Real: v, N: ^v, Mono: ^v, Xor: ^v}
				b := Cursor{Seq: ends[1], Real: n, N: ^n, Mono: ^n, Xor: ^n}
				compared(t, a, b, cmp.Compare(v, n))
			}
		}
	}
}

// P19.3: of two sequences and one Real by the sequences' bytes, the first that
// is another one.
func TestCompareOfSequences(t *testing.T) {
	rising := []api.ID{{}, {15: 1}, {15: 0x7f}, {15: 0x80}, {15: 0xff}, {14: 1}, {14: 1, 15: 9}, {8: 1}, {7: 1}, {1: 0xff, 2: 0xff}, {1}, {1, 15: 1}, {0x7f, 0xff}, {0x80}, {0xff}, {0xff, 15: 1}}
	for i, x := range rising {
		for j, y := range rising {
			if i == j {
				continue
			}
			for _, v := range []uint64{0, 7, 1 << 63} {
				a := Cursor{Seq: x, Real: v, N: uint64(j), Mono: uint64(j), Xor: uint64(j), Boot: y}
				b := Cursor{Seq: y, Real: v, N: uint64(i), Mono: uint64(i), Xor: uint64(i), Boot: x}
				compared(t, a, b, cmp.Compare(i, j))
			}
		}
	}
}

// P19.3: thrown ones, of few sequences, numbers and times, against the chapter's
// words.
func TestCompareOfThrown(t *testing.T) {
	var l []Cursor
	for _, c := range cursors(300) {
		c.Seq = api.ID{0: c.Seq[0] % 2, 15: c.Seq[1] % 2}
		c.N, c.Real = c.N%3, c.Real%3
		l = append(l, c)
	}
	for _, a := range l {
		for _, b := range l {
			want := strings.Compare(string(a.Seq[:]), string(b.Seq[:]))
			if a.Seq == b.Seq {
				want = cmp.Compare(a.N, b.N)
			} else if a.Real != b.Real {
				want = cmp.Compare(a.Real, b.Real)
			}
			compared(t, a, b, want)
		}
	}
}
