package marks

import (
	"math"
	"slices"
	"testing"

	"diurnal/api"
)

// plainMax is Max by the chapter's words.
func plainMax(a, b []api.Mark) ([]api.Mark, int) {
	if !plainRight(a) || !plainRight(b) {
		return nil, api.ErrArg
	}
	var out []api.Mark
	for _, m := range slices.Concat(a, b) {
		if has(out, m.ID) {
			continue
		}
		if has(b, m.ID) && plainGet(b, m.ID).Seq > m.Seq {
			m = plainGet(b, m.ID)
		}
		var code int
		if out, code = plainSet(out, m); code != api.Fine {
			return nil, code
		}
	}
	return out, api.Fine
}

// plainLe is Le by the chapter's words.
func plainLe(a, b []api.Mark) bool {
	for _, m := range a {
		if plainGet(b, m.ID).Seq < m.Seq {
			return false
		}
	}
	return true
}

// few answers marks of few IDs with few numbers, each of which tells, by Lost,
// which one it is.
func few(from uint64) []api.Mark {
	var l []api.Mark
	for id := range byte(3) {
		for seq := range uint64(3) {
			l = append(l, api.Mark{ID: api.ID{15: id}, Seq: seq, Lost: from + uint64(len(l)), Over: from})
		}
	}
	return l
}

// P20.2: of each ID the further one.
func TestMax(t *testing.T) {
	at := func(id byte, seq, lost uint64) api.Mark {
		return api.Mark{ID: api.ID{id}, Seq: seq, Lost: lost, Over: lost}
	}
	for _, c := range []struct{ a, b, want []api.Mark }{
		{nil, nil, nil},
		{row(1, 2), nil, row(1, 2)},
		{nil, row(1, 2), row(1, 2)},
		{row(1, 3), row(2, 4), row(1, 2, 3, 4)},
		{row(3, 4), row(1, 2), row(1, 2, 3, 4)},
		{row(1, 2, 3, 4), row(1, 2, 3, 4), row(1, 2, 3, 4)},
		{row(1, 2, 3, 4), row(4), row(1, 2, 3, 4)},
		{row(1), row(1, 2, 3, 4), row(1, 2, 3, 4)},
		{[]api.Mark{at(1, 5, 9)}, []api.Mark{at(1, 6, 0)}, []api.Mark{at(1, 6, 0)}},
		{[]api.Mark{at(1, 6, 0)}, []api.Mark{at(1, 5, 9)}, []api.Mark{at(1, 6, 0)}},
		{[]api.Mark{at(1, 5, 9)}, []api.Mark{at(1, 5, 1)}, []api.Mark{at(1, 5, 9)}},
		{[]api.Mark{at(1, 5, 1)}, []api.Mark{at(1, 5, 9)}, []api.Mark{at(1, 5, 1)}},
		{[]api.Mark{at(1, 0, 1)}, []api.Mark{at(1, 0, 9)}, []api.Mark{at(1, 0, 1)}},
		{nil, []api.Mark{at(1, 0, 9)}, []api.Mark{at(1, 0, 9)}},
		{[]api.Mark{at(1, 0, 9)}, nil, []api.Mark{at(1, 0, 9)}},
		{[]api.Mark{at(1, math.MaxInt64, 1)}, []api.Mark{at(1, 1<<63, 2)}, []api.Mark{at(1, 1<<63, 2)}},
		{[]api.Mark{at(1, math.MaxUint64, 1)}, []api.Mark{at(1, 0, 2)}, []api.Mark{at(1, math.MaxUint64, 1)}},
		{[]api.Mark{at(1, 5, 1), at(2, 5, 2), at(3, 5, 3)}, []api.Mark{at(1, 4, 4), at(2, 6, 5), at(3, 5, 6), at(4, 1, 7)}, []api.Mark{at(1, 5, 1), at(2, 6, 5), at(3, 5, 3), at(4, 1, 7)}},
	} {
		got, code := Max(c.a, c.b)
		answered(t, "Max", got, code, c.want, api.Fine)
	}
}

// P20.2: ErrArg ahead of ErrFull, with nothing beside.
func TestMaxFaults(t *testing.T) {
	for _, l := range wrongs() {
		for _, other := range append(wrongs(), nil, row(1), row(6, 7, 8, 9)) {
			got, code := Max(l, other)
			answered(t, "Max of what is not Right", got, code, nil, api.ErrArg)
			got, code = Max(other, l)
			answered(t, "Max with what is not Right", got, code, nil, api.ErrArg)
		}
	}
	for _, c := range [][2][]api.Mark{{row(1, 2, 3, 4), row(5)}, {row(1), row(2, 3, 4, 5)}, {row(1, 2, 3, 4), row(0, 1, 2, 3)}, {row(1, 3, 5), row(2, 4)}, {row(1, 2, 3, 4), row(6, 7, 8, 9)}, {row(1, 2, 3, 4), {{ID: api.ID{9}}}}} {
		for i := range 2 {
			got, code := Max(c[i], c[1-i])
			answered(t, "Max of five", got, code, nil, api.ErrFull)
		}
	}
}

// P20.2: all lists of few marks, Right or not, against the chapter's words.
func TestMaxAndLeOfAll(t *testing.T) {
	right := 0
	for _, a := range lists(few(100), 3) {
		for _, b := range lists(few(200), 2) {
			for _, c := range [][2][]api.Mark{{a, b}, {b, a}} {
				want, wantCode := plainMax(c[0], c[1])
				if got, code := Max(c[0], c[1]); code != wantCode || !slices.Equal(got, want) {
					t.Fatalf("Max of %v, %v: %v, %d; want %v, %d", c[0], c[1], got, code, want, wantCode)
				}
				if wantCode == api.Fine {
					right++
				}
				if got := Le(c[0], c[1]); got != plainLe(c[0], c[1]) {
					t.Fatalf("Le of %v, %v: %v", c[0], c[1], got)
				}
			}
		}
	}
	if right < 2000 {
		t.Errorf("only %d were Right", right)
	}
}

// P20.2: Max of thrown lists of more IDs, against the chapter's words.
func TestMaxOfThrown(t *testing.T) {
	throw := thrown()
	list := func() []api.Mark {
		var l []api.Mark
		for id := range byte(6) {
			if throw(2) == 0 && len(l) < 4 {
				l = append(l, api.Mark{ID: api.ID{id % 2, 15: id}, Seq: greats()[throw(4)], Lost: uint64(throw(1000))})
			}
		}
		slices.SortFunc(l, func(a, b api.Mark) int { return slices.Compare(a.ID[:], b.ID[:]) })
		return l
	}
	for range 20000 {
		a, b := list(), list()
		want, wantCode := plainMax(a, b)
		got, code := Max(a, b)
		answered(t, "Max of thrown ones", got, code, want, wantCode)
	}
}

// P0.4: what was handed in is as it was, and what is behind it; what is handed
// out is new memory.
func TestMaxMemory(t *testing.T) {
	all := [][]api.Mark{nil, row(1), row(2), row(1, 2), row(3, 4), row(1, 2, 3, 4)}
	for _, a := range all {
		for _, b := range all {
			x, y := keep(a), keep(b)
			got, _ := Max(x.list(), y.list())
			other, _ := Max(x.list(), y.list())
			told := slices.Clone(other)
			spoil(got)
			x.unchanged(t, "Max")
			y.unchanged(t, "Max")
			Le(x.list(), y.list())
			Same(x.list(), y.list())
			x.unchanged(t, "Le or Same")
			y.unchanged(t, "Le or Same")
			spoil(x.all)
			spoil(y.all)
			if !slices.Equal(other, told) {
				t.Errorf("Max of %v, %v: another answer, or a list, shows in %v", a, b, other)
			}
		}
	}
}

// P20.2: each mark of a, be it there or not, by Seq alone.
func TestLe(t *testing.T) {
	at := func(id byte, seq uint64) api.Mark {
		return api.Mark{ID: api.ID{id}, Seq: seq, Lost: seq ^ 7, Over: ^seq}
	}
	for _, v := range greats() {
		for _, n := range greats() {
			if Le([]api.Mark{at(1, v)}, []api.Mark{at(1, n)}) != (v <= n) {
				t.Errorf("Le of %d, %d", v, n)
			}
			if Le([]api.Mark{at(1, 0), at(2, v)}, []api.Mark{at(2, n), at(3, v)}) != (v <= n) {
				t.Errorf("Le of %d, %d beside others", v, n)
			}
		}
		if Le([]api.Mark{at(1, v)}, nil) != (v == 0) || Le([]api.Mark{at(1, v)}, []api.Mark{at(2, v)}) != (v == 0) || !Le(nil, []api.Mark{at(1, v)}) {
			t.Errorf("Le of %d, and none", v)
		}
	}
	if !Le(nil, nil) || Le([]api.Mark{at(1, 5), at(2, 5)}, []api.Mark{at(1, 5), at(2, 4)}) || Le([]api.Mark{at(1, 5), at(2, 5)}, []api.Mark{at(1, 4), at(2, 5)}) {
		t.Error("Le of two")
	}
}

// P20.2: of lists that are not Right all of a, and of b the first of an ID.
func TestLeOfWrongs(t *testing.T) {
	at := func(id byte, seq uint64) api.Mark { return api.Mark{ID: api.ID{id}, Seq: seq} }
	five := []api.Mark{at(5, 1), at(4, 1), at(3, 1), at(2, 1), at(1, 1)}
	if !Le(five, five) || Le(append(slices.Clone(five), at(1, 2)), five) || Le(append(slices.Clone(five), at(6, 1)), five) {
		t.Error("Le of five")
	}
	if Le([]api.Mark{at(1, 2)}, []api.Mark{at(1, 1), at(1, 2)}) || !Le([]api.Mark{at(1, 2)}, []api.Mark{at(1, 2), at(1, 1)}) || Le([]api.Mark{at(1, 1)}, []api.Mark{at(1, 0), at(1, 2)}) {
		t.Error("Le of one that is there twice")
	}
	if Le([]api.Mark{at(1, 1), at(1, 3)}, []api.Mark{at(1, 2)}) || Le([]api.Mark{at(1, 3), at(1, 1)}, []api.Mark{at(1, 2)}) {
		t.Error("Le of one that is asked twice")
	}
}

// P0.1: long lists end, too.
func TestLeOfLongOnes(t *testing.T) {
	const n = 1 << 18
	a, b := make([]api.Mark, n), make([]api.Mark, n)
	for i := range a {
		a[i] = api.Mark{ID: api.ID{byte(i), byte(i >> 8), 9: byte(i >> 16)}, Seq: uint64(i)}
		b[n-1-i] = a[i]
	}
	if !Le(a, b) || !Same(a, a) || Same(a, b) {
		t.Error("long ones")
	}
	b[0].Seq--
	if Le(a, b) || !Le(b, a) || Right(a) {
		t.Error("long ones, of which one is further")
	}
}

// P20.2: one by one, all parts of each, in one order.
func TestSame(t *testing.T) {
	all := append([][]api.Mark{nil, row(1), row(1, 2), row(2), row(1, 2, 3, 4)}, wrongs()...)
	for i, a := range all {
		for j, b := range all {
			if got := Same(a, b); got != (i == j) {
				t.Errorf("Same of %v, %v: %v", a, b, got)
			}
		}
		if !Same(a, slices.Clone(a)) {
			t.Errorf("Same of %v, and a copy", a)
		}
		for k := range a {
			for _, turn := range []func(m *api.Mark){
				func(m *api.Mark) { m.ID[0] ^= 0x40 }, func(m *api.Mark) { m.ID[15]++ }, func(m *api.Mark) { m.Seq ^= 1 << 63 }, func(m *api.Mark) { m.Seq++ },
				func(m *api.Mark) { m.Lost++ }, func(m *api.Mark) { m.Lost ^= 1 << 63 }, func(m *api.Mark) { m.Over++ }, func(m *api.Mark) { m.Over ^= 1 << 63 },
			} {
				b := slices.Clone(a)
				turn(&b[k])
				if Same(a, b) || Same(b, a) {
					t.Errorf("Same of %v, %v", a[k], b[k])
				}
			}
		}
	}
	if !Same(nil, []api.Mark{}) || !Same([]api.Mark{}, nil) {
		t.Error("Same of none")
	}
}
