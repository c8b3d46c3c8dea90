package marks

import (
	"testing"

	"diurnal/api"
)

// P20.1: at most MaxMarks, their IDs rising.
func TestRight(t *testing.T) {
	for _, l := range [][]api.Mark{nil, {}, {{}}, row(1), row(0xff), row(1, 2), row(0, 0xff), row(1, 2, 3), row(1, 2, 3, 4), row(0, 0x7f, 0x80, 0xff)} {
		if !Right(l) {
			t.Errorf("Right of %v: false", l)
		}
	}
	for _, l := range wrongs() {
		if Right(l) {
			t.Errorf("Right of %v: true", l)
		}
	}
}

// P20.1: by all bytes of the IDs, the first one that is another first.
func TestRightByBytes(t *testing.T) {
	ids := rising()
	for i, a := range ids {
		for j, b := range ids {
			if got := Right([]api.Mark{{ID: a}, {ID: b}}); got != (i < j) {
				t.Errorf("Right of %v, %v: %v", a, b, got)
			}
		}
	}
}

// P20.1: whatever the numbers are.
func TestRightOfNumbers(t *testing.T) {
	for _, v := range greats() {
		l := []api.Mark{{ID: api.ID{1}, Seq: v, Lost: ^v, Over: v}, {ID: api.ID{2}, Seq: ^v, Lost: v, Over: ^v}}
		if !Right(l) || Right([]api.Mark{l[1], l[0]}) || Right([]api.Mark{l[0], {ID: l[0].ID}}) {
			t.Errorf("Right of marks with %d", v)
		}
	}
}

// P20.1: all lists of few IDs, against the chapter's words.
func TestRightOfAll(t *testing.T) {
	right := 0
	for _, l := range lists(row(1, 2, 3, 4, 5), 6) {
		if got := Right(l); got != plainRight(l) {
			t.Fatalf("Right of %v: %v", l, got)
		} else if got {
			right++
		}
	}
	if right != 1+5+10+10+5 {
		t.Errorf("%d were Right", right)
	}
}

// P20.1: the first one of that ID, all of it.
func TestGet(t *testing.T) {
	l := row(1, 2, 3, 4)
	for i, m := range l {
		if got := Get(l, m.ID); got != l[i] {
			t.Errorf("Get of the mark %d: %v", i, got)
		}
	}
	for _, id := range rising() {
		if got := Get(l, id); got != (api.Mark{ID: id}) {
			t.Errorf("Get of %v, that is not there: %v", id, got)
		}
		if got := Get(nil, id); got != (api.Mark{ID: id}) {
			t.Errorf("Get of %v of none: %v", id, got)
		}
		if got := Get([]api.Mark{some(1), {ID: id, Seq: 5}}, id); got != (api.Mark{ID: id, Seq: 5}) {
			t.Errorf("Get of %v: %v", id, got)
		}
	}
	for i := range 16 {
		id := some(1).ID
		id[i]++
		if got := Get(l, id); got != (api.Mark{ID: id}) {
			t.Errorf("Get of an ID whose byte %d is another: %v", i, got)
		}
	}
}

// P20.1: of lists that are not Right, too, and of long ones.
func TestGetOfWrongs(t *testing.T) {
	twice := []api.Mark{some(2), {ID: some(2).ID, Seq: 9}, some(1), {ID: some(1).ID}}
	for i := range 2 {
		if got := Get(twice, twice[2*i].ID); got != twice[2*i] {
			t.Errorf("Get of one that is there twice: %v", got)
		}
	}
	for _, l := range append(wrongs(), row(9, 8, 7, 6, 5, 4, 3, 2, 1)) {
		k := keep(l)
		for id := range byte(10) {
			for _, id := range []api.ID{some(id).ID, {}, {id}} {
				if got := Get(k.list(), id); got != plainGet(l, id) {
					t.Errorf("Get of %v of %v: %v", id, l, got)
				}
			}
		}
		k.unchanged(t, "Get")
	}
	if id := some(0xe1).ID; Get(keep(row(1)).list(), id) != (api.Mark{ID: id}) {
		t.Error("Get of one behind the list")
	}
}
