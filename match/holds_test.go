package match

import (
	"slices"
	"strconv"
	"strings"
	"testing"

	"diurnal/api"
)

// P17.2: a match without rows holds of whatever there is.
func TestHoldsOfNoRows(t *testing.T) {
	for _, l := range [][]api.Pair{nil, {}, list("A", "1"), list("", "", "a", "b")} {
		isHeld(t, api.Match{}, l, true)
		isHeld(t, api.Match{Rows: [][]api.Alt{}}, l, true)
	}
}

// P17.2: a row without Alts holds, an Alt without values does not, with other
// ones beside them or not.
func TestHoldsOfEmptyParts(t *testing.T) {
	l := list("A", "1", "B", "")
	for _, c := range []struct {
		m    api.Match
		want bool
	}{
		{of(nil), true},
		{of(row()), true},
		{of(nil, row(alt("C", "1"))), true},
		{of(row(alt("C", "1")), nil), true},
		{of(row(alt("A"))), false},
		{of(row(alt("A"), alt("B", ""))), false},
		{of(row(alt("B", ""), alt("A"))), false},
		{of(row(alt("A")), row(alt("A", "1"))), true},
		{of(row(alt("A", "1")), row(alt("A"))), true},
		{of(row(alt("A")), nil), true},
		{of(row(alt("")), row(alt("B"))), false},
		{of(row(alt("", ""))), false},
	} {
		isHeld(t, c.m, l, c.want)
	}
	isHeld(t, of(nil), nil, true)
	isHeld(t, of(row(alt("A"))), nil, false)
	isHeld(t, of(row(alt("A", ""))), nil, false)
}

// P17.2: one of the rows, in which each Alt has one of its values under its own
// name.
func TestHolds(t *testing.T) {
	m := of(row(alt("A", "1", "2"), alt("B", "3", "4")), row(alt("C", "5")))
	for _, c := range []struct {
		l    []api.Pair
		want bool
	}{
		{nil, false},
		{list("A", "1", "B", "3"), true},
		{list("A", "2", "B", "4"), true},
		{list("B", "4", "A", "1"), true},
		{list("X", "x", "B", "4", "Y", "y", "A", "1", "Z", "z"), true},
		{list("A", "9", "A", "1", "B", "9", "B", "3"), true},
		{list("A", "1", "A", "2", "B", "3", "B", "4", "C", "5"), true},
		{list("A", "1"), false},
		{list("A", "1", "A", "2"), false},
		{list("B", "3"), false},
		{list("A", "1", "B", "1"), false},
		{list("A", "3", "B", "3"), false},
		{list("A", "3", "B", "1"), false},
		{list("B", "1", "B", "2", "A", "3", "A", "4"), false},
		{list("C", "5"), true},
		{list("C", "1"), false},
		{list("A", "5", "B", "5"), false},
		{list("A", "1", "C", "5"), true},
		{list("C", "5", "C", "6"), true},
		{list("C", ""), false},
		{list("C", "55"), false},
		{list("CC", "5"), false},
		{list("c", "5"), false},
		{list("C5", ""), false},
		{list("", "C5", "", "C=5", "C=", "5"), false},
		{list("A", "1", "C", "3"), false},
	} {
		isHeld(t, m, c.l, c.want)
	}
}

// P17.2: whether the match or the pairs are right, or rise, is not asked.
func TestHoldsOfWrongOnes(t *testing.T) {
	long := strings.Repeat("x", 300)
	for _, c := range []struct {
		m    api.Match
		l    []api.Pair
		want bool
	}{
		{of(row(alt("a", "b"))), list("a", "b"), true},
		{of(row(alt("", ""))), list("", ""), true},
		{of(row(alt("", ""))), list("", "x"), false},
		{of(row(alt("A", long))), list("A", long), true},
		{of(row(alt("A", long))), list("A", long[1:]), false},
		{of(row(alt("A", "2", "1", "1"))), list("A", "1"), true},
		{of(row(alt("B", "2"), alt("A", "1"))), list("A", "1", "B", "2"), true},
		{of(row(alt("A", "1"), alt("A", "2"))), list("A", "1"), false},
		{of(row(alt("A", "1"), alt("A", "2"))), list("A", "1", "A", "2"), true},
		{of(row(alt("A=", "1"))), list("A", "=1"), false},
		{of(row(alt("A", "=1"))), list("A=", "1"), false},
		{of(row(alt("A", "é"))), list("A", "e\u0301"), false},
		{of(row(alt("A", "\xff"))), list("A", "\ufffd"), false},
		{of(row(alt("A", "1\x00"))), list("A", "1"), false},
	} {
		isHeld(t, c.m, c.l, c.want)
	}
}

// P17.2, P0.1: many values and many pairs, more than any match or entry has.
func TestHoldsOfMany(t *testing.T) {
	var l []api.Pair
	var texts []string
	for i := range 100000 {
		l = append(l, api.Pair{Name: "A", Value: strconv.Itoa(i)})
		texts = append(texts, "no"+strconv.Itoa(i))
	}
	isHeld(t, of(row(alt("A", texts...))), l, false)
	isHeld(t, of(row(alt("A", append(texts, "99999")...))), l, true)
	isHeld(t, of(row(alt("A", "0"), alt("B", "0"))), l, false)
	isHeld(t, of(append(slices.Repeat([][]api.Alt{row(alt("A", "x"))}, 100000), row(alt("A", "50000")))...), l, true)
}

// P0.4: what lies behind a list is not read.
func TestHoldsOfPartsOfLists(t *testing.T) {
	l := list("A", "1", "B", "2")
	isHeld(t, of(row(alt("B", "2"))), l[:1], false)
	rows := [][]api.Alt{row(alt("A", "0", "1")), row(alt("A", "1"))}
	rows[0][0].Values = rows[0][0].Values[:1]
	isHeld(t, of(rows[:1]...), l, false)
	isHeld(t, of(rows...), l, true)
	isHeld(t, of(row(alt("A", "1"), alt("C", "1"))[:1]), l, true)
}

// P17.2: Same of each two of unlike matches, right ones or not.
func TestSame(t *testing.T) {
	all := []api.Match{
		{},
		of(nil),
		of(nil, nil),
		of(row(alt(""))),
		of(row(alt("", ""))),
		of(row(alt("", "", ""))),
		of(row(alt("A"))),
		of(row(alt("A"), alt("A"))),
		of(row(alt("A")), row(alt("A"))),
		of(row(alt("A", ""))),
		of(row(alt("A", "1"))),
		of(row(alt("A", "2"))),
		of(row(alt("A", "1", "2"))),
		of(row(alt("A", "2", "1"))),
		of(row(alt("A", "1", "1"))),
		of(row(alt("A", "12"))),
		of(row(alt("A1", "2"))),
		of(row(alt("B", "1"))),
		of(row(alt("a", "1"))),
		of(row(alt("A", "1"), alt("B", "1"))),
		of(row(alt("B", "1"), alt("A", "1"))),
		of(row(alt("A", "1")), row(alt("B", "1"))),
		of(row(alt("B", "1")), row(alt("A", "1"))),
		of(row(alt("A", "1")), row(alt("A", "1"))),
		of(row(alt("A", "1")), nil),
		of(nil, row(alt("A", "1"))),
		of(row(alt("A", "1"), alt("A", "2"))),
		of(row(alt("A", "1"), alt("B"))),
		of(row(alt("A", strings.Repeat("x", 300)))),
		of(row(alt("A", strings.Repeat("x", 299)+"y"))),
	}
	for i, a := range all {
		for j, b := range all {
			isSame(t, a, b, i == j)
			isSame(t, copied(a), b, i == j)
		}
	}
}

// P0.4: nil and the empty list are the same, and what lies behind a list is not
// read.
func TestSameOfPartsOfLists(t *testing.T) {
	isSame(t, api.Match{}, api.Match{Rows: [][]api.Alt{}}, true)
	isSame(t, of(nil), of(row()), true)
	isSame(t, of(row(alt("A"))), of(row(api.Alt{Name: "A", Values: []string{}})), true)
	rows := [][]api.Alt{row(alt("A", "1", "2"), alt("B", "1")), row(alt("C", "1"))}
	rows[0][0].Values = rows[0][0].Values[:1]
	isSame(t, of(rows[0][:1]), of(row(alt("A", "1"))), true)
	isSame(t, of(rows[:1]...), of(row(alt("A", "1"), alt("B", "1"))), true)
}
