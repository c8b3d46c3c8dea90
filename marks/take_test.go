package marks

import (
	"math"
	"math/big"
	"slices"
	"testing"

	"diurnal/api"
)

// one and gap answer items of that ID; what they don't name is wild, as no call
// asks for it.
func one(id api.ID, seq uint64) api.Item {
	return api.Item{ID: id, From: seq ^ 5, To: ^seq, Record: api.Record{Seq: seq, Real: 1, Mono: 2, Boot: api.ID{3}, Fields: []api.Pair{{Name: "a"}}}}
}

func gap(id api.ID, from, to uint64) api.Item {
	return api.Item{ID: id, Gap: true, From: from, To: to, Record: api.Record{Seq: from ^ 5}}
}

// plainHeld is a + b, at most 2^64 - 1, by numbers without bounds.
func plainHeld(a uint64, b *big.Int) uint64 {
	sum := new(big.Int).Add(new(big.Int).SetUint64(a), b)
	if !sum.IsUint64() {
		return math.MaxUint64
	}
	return sum.Uint64()
}

// plainTake is Take by the chapter's words.
func plainTake(l []api.Mark, it api.Item, over bool) ([]api.Mark, int) {
	switch {
	case !plainRight(l):
		return nil, api.ErrArg
	case !has(l, it.ID) && len(l) == 4:
		return nil, api.ErrFull
	}
	m := plainGet(l, it.ID)
	if it.Gap {
		if it.From <= m.Seq || it.To < it.From {
			return nil, api.ErrOrder
		}
		from, to := new(big.Int).SetUint64(it.From), new(big.Int).SetUint64(it.To)
		m.Seq, m.Lost = it.To, plainHeld(m.Lost, to.Add(to.Sub(to, from), big.NewInt(1)))
		return plainSet(l, m)
	}
	if it.Record.Seq <= m.Seq {
		return nil, api.ErrOrder
	}
	m.Seq = it.Record.Seq
	if over {
		m.Over = plainHeld(m.Over, big.NewInt(1))
	}
	return plainSet(l, m)
}

// takes tells where Take does not answer what the chapter's words say.
func takes(t *testing.T, l []api.Mark, it api.Item) {
	t.Helper()
	for _, over := range []bool{false, true} {
		want, wantCode := plainTake(l, it, over)
		got, code := Take(l, it, over)
		if code != wantCode || !slices.Equal(got, want) {
			t.Errorf("Take of %v, %+v, %v: %v, %d; want %v, %d", l, it, over, got, code, want, wantCode)
		}
	}
}

// P20.1: an entry: its Seq, and Over where it is over.
func TestTakeOfEntries(t *testing.T) {
	id := api.ID{7}
	was := api.Mark{ID: id, Seq: 10, Lost: 20, Over: 30}
	for _, seq := range []uint64{11, 12, 500, math.MaxUint64} {
		got, code := Take([]api.Mark{was}, one(id, seq), false)
		answered(t, "Take of an entry", got, code, []api.Mark{{ID: id, Seq: seq, Lost: 20, Over: 30}}, api.Fine)
		got, code = Take([]api.Mark{was}, one(id, seq), true)
		answered(t, "Take of an entry that is over", got, code, []api.Mark{{ID: id, Seq: seq, Lost: 20, Over: 31}}, api.Fine)
		got, code = Take(nil, one(id, seq), true)
		answered(t, "Take of an entry by none", got, code, []api.Mark{{ID: id, Seq: seq, Over: 1}}, api.Fine)
	}
	for _, seq := range []uint64{0, 1, 9, 10} {
		got, code := Take([]api.Mark{was}, one(id, seq), true)
		answered(t, "Take of an entry that is done", got, code, nil, api.ErrOrder)
	}
	got, code := Take(nil, one(id, 0), false)
	answered(t, "Take of the number 0", got, code, nil, api.ErrOrder)
	got, code = Take(nil, one(id, 1), false)
	answered(t, "Take of the number 1", got, code, []api.Mark{{ID: id, Seq: 1}}, api.Fine)
}

// P20.1: a gap: its To, and Lost; over says nothing of it.
func TestTakeOfGaps(t *testing.T) {
	id := api.ID{7}
	was := api.Mark{ID: id, Seq: 10, Lost: 20, Over: 30}
	for _, over := range []bool{false, true} {
		got, code := Take(nil, gap(id, 1, 3), over)
		answered(t, "Take of the chapter's gap", got, code, []api.Mark{{ID: id, Seq: 3, Lost: 3}}, api.Fine)
		got, code = Take([]api.Mark{was}, gap(id, 11, 11), over)
		answered(t, "Take of a gap of one", got, code, []api.Mark{{ID: id, Seq: 11, Lost: 21, Over: 30}}, api.Fine)
		got, code = Take([]api.Mark{was}, gap(id, 15, 24), over)
		answered(t, "Take of a gap further on", got, code, []api.Mark{{ID: id, Seq: 24, Lost: 30, Over: 30}}, api.Fine)
		for _, c := range [][2]uint64{{0, 0}, {0, 12}, {1, 12}, {9, 12}, {10, 12}, {10, 10}, {12, 11}, {11, 10}, {math.MaxUint64, 11}, {0, math.MaxUint64}, {11, 0}} {
			got, code = Take([]api.Mark{was}, gap(id, c[0], c[1]), over)
			answered(t, "Take of a wrong gap", got, code, nil, api.ErrOrder)
		}
		got, code = Take(nil, gap(id, 0, 3), over)
		answered(t, "Take of a gap from 0", got, code, nil, api.ErrOrder)
	}
}

// P20.1: Lost and Over are held at 2^64 - 1.
func TestTakeHolds(t *testing.T) {
	id := api.ID{7}
	const most = math.MaxUint64
	for _, c := range []struct {
		was, from, to, want uint64
	}{
		{0, 1, most, most}, {1, 1, most, most}, {most, 1, most, most}, {most, 5, 5, most}, {most - 1, 5, 5, most}, {most - 1, 5, 6, most},
		{most - 2, 5, 5, most - 1}, {most - 2, 5, 6, most}, {most - 2, 5, 7, most}, {1, 2, most, most}, {0, 2, most, most - 1}, {2, 2, most, most}, {0, most, most, 1}, {1 << 63, 1, 1 << 63, most},
	} {
		got, code := Take([]api.Mark{{ID: id, Lost: c.was, Over: 4}}, gap(id, c.from, c.to), true)
		answered(t, "Take of a great gap", got, code, []api.Mark{{ID: id, Seq: c.to, Lost: c.want, Over: 4}}, api.Fine)
	}
	for was, want := range map[uint64]uint64{most: most, most - 1: most, most - 2: most - 1} {
		got, code := Take([]api.Mark{{ID: id, Lost: 4, Over: was}}, one(id, 1), true)
		answered(t, "Take of one more that is over", got, code, []api.Mark{{ID: id, Seq: 1, Lost: 4, Over: want}}, api.Fine)
		got, code = Take([]api.Mark{{ID: id, Lost: 4, Over: was}}, one(id, 1), false)
		answered(t, "Take of one that is not", got, code, []api.Mark{{ID: id, Seq: 1, Lost: 4, Over: was}}, api.Fine)
	}
	got, code := Take([]api.Mark{{ID: id, Seq: most}}, one(id, most), false)
	answered(t, "Take behind the last number", got, code, nil, api.ErrOrder)
}

// P20.1: ErrArg, ErrFull, ErrOrder, in this order.
func TestTakeFaults(t *testing.T) {
	for _, l := range wrongs() {
		for id := range byte(8) {
			for _, it := range []api.Item{one(some(id).ID, math.MaxUint64), one(some(id).ID, 0), gap(some(id).ID, 0, 0)} {
				got, code := Take(l, it, true)
				answered(t, "Take of what is not Right", got, code, nil, api.ErrArg)
			}
		}
	}
	for _, id := range []api.ID{{}, {2}, {0xff}} {
		for _, it := range []api.Item{one(id, 1), one(id, 0), gap(id, 1, 2), gap(id, 2, 1), gap(id, 0, 0)} {
			got, code := Take(row(1, 2, 3, 4), it, false)
			answered(t, "Take of a fifth sequence", got, code, nil, api.ErrFull)
		}
	}
}

// P20.1: with other marks there, each at its place, which stay.
func TestTakeBesideOthers(t *testing.T) {
	for n := range 5 {
		for id := range byte(6) {
			l := row(1, 2, 3, 4)[:n]
			seq := plainGet(l, some(id).ID).Seq
			takes(t, l, one(some(id).ID, seq))
			takes(t, l, one(some(id).ID, seq+1))
			takes(t, l, gap(some(id).ID, seq+1, seq+9))
			takes(t, l, gap(some(id).ID, seq+2, seq+1))
		}
	}
}

// P20.1: all numbers about the ends, against the chapter's words.
func TestTakeOfAll(t *testing.T) {
	id := api.ID{7}
	for _, seq := range greats() {
		for _, count := range greats() {
			l := []api.Mark{{ID: api.ID{6}}, {ID: id, Seq: seq, Lost: count, Over: count}, {ID: api.ID{8}}}
			for _, from := range greats() {
				takes(t, l, one(id, from))
				for _, to := range greats() {
					takes(t, l, gap(id, from, to))
				}
			}
		}
	}
}

// P0.4: what was handed in is as it was, and what is behind it; what is handed
// out is new memory.
func TestTakeMemory(t *testing.T) {
	for n := range 5 {
		for id := range byte(6) {
			k := keep(row(1, 2, 3, 4)[:n])
			it := one(some(id).ID, math.MaxUint64)
			got, code := Take(k.list(), it, true)
			if code != api.Fine {
				continue
			}
			other, _ := Take(k.list(), it, true)
			told := slices.Clone(other)
			spoil(got)
			k.unchanged(t, "Take")
			spoil(k.all)
			if !slices.Equal(other, told) {
				t.Errorf("Take of %d marks: another answer, or the list, shows in %v", n, other)
			}
			if len(it.Record.Fields) != 1 || it.Record.Fields[0] != (api.Pair{Name: "a"}) {
				t.Errorf("Take changed its item: %+v", it)
			}
		}
	}
}
