package marks

import (
	"slices"
	"testing"

	"diurnal/api"
)

// P20.1: a mark that was not there, at each place.
func TestSet(t *testing.T) {
	for n := range 4 {
		for at := range n + 1 {
			var l []api.Mark
			for i := range n + 1 {
				if i != at {
					l = append(l, some(byte(10*i)))
				}
			}
			m := some(byte(10 * at))
			got, code := Set(l, m)
			answered(t, "Set", got, code, slices.Insert(slices.Clone(l), at, m), api.Fine)
		}
	}
}

// P20.1: in the place of one that was there, be it further or not.
func TestSetOfOneThatIsThere(t *testing.T) {
	for n := 1; n <= 4; n++ {
		l := row(1, 2, 3, 4)[:n]
		for i := range l {
			for _, v := range greats() {
				m := api.Mark{ID: l[i].ID, Seq: v, Lost: v / 2, Over: v / 3}
				want := slices.Clone(l)
				want[i] = m
				got, code := Set(l, m)
				answered(t, "Set", got, code, want, api.Fine)
			}
		}
	}
}

// P20.1: a mark of which nothing is done is one.
func TestSetOfZeros(t *testing.T) {
	got, code := Set(nil, api.Mark{})
	answered(t, "Set of zeros", got, code, []api.Mark{{}}, api.Fine)
	got, code = Set(row(1), api.Mark{ID: api.ID{0xff}})
	answered(t, "Set of no numbers", got, code, append(row(1), api.Mark{ID: api.ID{0xff}}), api.Fine)
}

// P20.1: ErrArg ahead of ErrFull, with nothing beside.
func TestSetFaults(t *testing.T) {
	for _, l := range wrongs() {
		for id := range byte(8) {
			got, code := Set(l, some(id))
			answered(t, "Set of what is not Right", got, code, nil, api.ErrArg)
		}
	}
	for _, id := range []byte{0, 5, 0xff} {
		got, code := Set(row(1, 2, 3, 4), some(id))
		answered(t, "Set of a fifth one", got, code, nil, api.ErrFull)
	}
	got, code := Set(row(1, 2, 4, 5), some(3))
	answered(t, "Set of a fifth one between others", got, code, nil, api.ErrFull)
}

// P20.1: all lists of few marks, and each mark, against the chapter's words.
func TestSetOfAll(t *testing.T) {
	of := row(1, 2, 3, 4, 5, 6)
	for _, l := range lists(of, 5) {
		for _, m := range of {
			m.Seq = 7
			want, wantCode := plainSet(l, m)
			got, code := Set(l, m)
			answered(t, "Set", got, code, want, wantCode)
		}
	}
}

// P0.4: what was handed in is as it was, and what is behind it; what is handed
// out is new memory.
func TestSetMemory(t *testing.T) {
	for n := range 5 {
		for id := range byte(6) {
			k := keep(row(1, 2, 3, 4)[:n])
			one, code := Set(k.list(), api.Mark{ID: some(id).ID})
			if code != api.Fine {
				continue
			}
			other, _ := Set(k.list(), api.Mark{ID: some(id).ID})
			told := slices.Clone(other)
			spoil(one)
			k.unchanged(t, "Set")
			spoil(k.all)
			if !slices.Equal(other, told) {
				t.Errorf("Set of %d marks: another answer, or the list, shows in %v", n, other)
			}
		}
	}
}
