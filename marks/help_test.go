package marks

import (
	"bytes"
	"math"
	"slices"
	"strings"
	"testing"

	"diurnal/api"
)

// greats answers numbers about the ends of all widths.
func greats() []uint64 {
	return []uint64{0, 1, 2, 0x7f, 0x80, 0xff, 0x100, 0xffff, math.MaxUint32, 1 << 32, math.MaxInt64, 1 << 63,
		math.MaxUint64 - 2, math.MaxUint64 - 1, math.MaxUint64}
}

// rising answers IDs each of which is above the one ahead, by bytes.
func rising() []api.ID {
	return []api.ID{{}, {15: 1}, {15: 0x7f}, {15: 0x80}, {15: 0xff}, {14: 1}, {14: 1, 15: 9}, {8: 1}, {7: 1}, {7: 1, 8: 0xff},
		{1: 0xff, 2: 0xff}, {1}, {1, 15: 1}, {0x7f, 0xff}, {0x80}, {0xff}, {0xff, 15: 1}}
}

// some answers a mark of which each part is another one.
func some(id byte) api.Mark {
	return api.Mark{ID: api.ID{id, 15: id ^ 0x5a}, Seq: 0x0102030405060700 + uint64(id), Lost: 0x1112131415161700 + uint64(id), Over: 0x2122232425262700 + uint64(id)}
}

// row answers marks of such IDs.
func row(ids ...byte) []api.Mark {
	var l []api.Mark
	for _, id := range ids {
		l = append(l, some(id))
	}
	return l
}

// wrongs answers lists that are not Right.
func wrongs() [][]api.Mark {
	return [][]api.Mark{row(2, 1), row(1, 1), row(1, 3, 2), row(1, 2, 2), row(2, 1, 3), row(1, 2, 4, 3), row(1, 2, 1), row(4, 3, 2, 1),
		row(1, 2, 3, 4, 5), row(1, 2, 3, 4, 4), row(5, 4, 3, 2, 1), row(1, 2, 3, 4, 5, 6), make([]api.Mark, 2), make([]api.Mark, 1000)}
}

// lists answers all lists of at most most such marks.
func lists(of []api.Mark, most int) [][]api.Mark {
	out := [][]api.Mark{nil}
	for from := 0; most > 0; most-- {
		to := len(out)
		for _, l := range out[from:to] {
			for _, m := range of {
				out = append(out, append(slices.Clone(l), m))
			}
		}
		from = to
	}
	return out
}

// below tells whether a is below b by bytes, as the chapter's words say.
func below(a, b api.ID) bool {
	return strings.Compare(string(a[:]), string(b[:])) < 0
}

// plainRight is Right by the chapter's words.
func plainRight(l []api.Mark) bool {
	for i := range l {
		for j := range i {
			if !below(l[j].ID, l[i].ID) {
				return false
			}
		}
	}
	return len(l) <= 4
}

// plainGet is Get by the chapter's words.
func plainGet(l []api.Mark, id api.ID) api.Mark {
	i := slices.IndexFunc(l, func(m api.Mark) bool { return m.ID == id })
	if i < 0 {
		return api.Mark{ID: id}
	}
	return l[i]
}

// has tells whether l has a mark of that ID.
func has(l []api.Mark, id api.ID) bool {
	return slices.ContainsFunc(l, func(m api.Mark) bool { return m.ID == id })
}

// plainSet is Set by the chapter's words.
func plainSet(l []api.Mark, m api.Mark) ([]api.Mark, int) {
	if !plainRight(l) {
		return nil, api.ErrArg
	}
	out := []api.Mark{m}
	for _, x := range l {
		if x.ID != m.ID {
			out = append(out, x)
		}
	}
	if len(out) > 4 {
		return nil, api.ErrFull
	}
	slices.SortFunc(out, func(a, b api.Mark) int { return strings.Compare(string(a.ID[:]), string(b.ID[:])) })
	return out, api.Fine
}

// kept holds a list with others behind it in its memory, and tells where a
// call changed any of them.
type kept struct {
	all, was []api.Mark
	n        int
}

func keep(l []api.Mark) kept {
	all := slices.Concat(l, row(0xe1, 0xe2, 0xe3, 0xe4))
	return kept{all: all, was: slices.Clone(all), n: len(l)}
}

func (k kept) list() []api.Mark { return k.all[:k.n] }

func (k kept) unchanged(t *testing.T, name string) {
	t.Helper()
	if !slices.Equal(k.all, k.was) {
		t.Errorf("%s changed what it was handed: %v; was %v", name, k.all, k.was)
	}
}

// spoil writes over a list and its spare room.
func spoil(l []api.Mark) {
	l = l[:cap(l)]
	for i := range l {
		l[i] = some(0xee)
	}
}

// answered tells where an answer is not the one that is wanted.
func answered(t *testing.T, name string, got []api.Mark, code int, want []api.Mark, wantCode int) {
	t.Helper()
	if code != wantCode || !slices.Equal(got, want) {
		t.Errorf("%s: %v, %d; want %v, %d", name, got, code, want, wantCode)
	}
}

// low answers the eight bytes of v, the lowest first.
func low(v uint64) []byte {
	var b []byte
	for i := range 8 {
		b = append(b, byte(v>>(8*i)))
	}
	return b
}

// laid answers so many marks as they stand in bytes, by the chapter's words,
// be they Right or not.
func laid(count byte, l []api.Mark) []byte {
	b := []byte{count}
	for _, m := range l {
		b = slices.Concat(b, m.ID[:], low(m.Seq), low(m.Lost), low(m.Over))
	}
	return b
}

// thrown answers a source of numbers that are the same each time.
func thrown() func(n int) int {
	seed := uint64(1)
	return func(n int) int {
		seed = seed*6364136223846793005 + 1442695040888963407
		return int(seed >> 33 % uint64(n))
	}
}

// spoilt answers b with v at the place at.
func spoilt(b []byte, at int, v ...byte) []byte {
	out := bytes.Clone(b)
	copy(out[at:], v)
	return out
}
