package query

import (
	"fmt"
	"strconv"
	"strings"
	"testing"

	"diurnal/api"
	"diurnal/match"
)

// P18.1: in one of the rows each Alt has one of its values.
func TestFind(t *testing.T) {
	for _, s := range shapes() {
		f := opened(t, written(t, s, "A=1", "A=2 B=1", "A=1 B=1", "B=2 C=1", "A=1 A=2", "B=1", "A=3 B=3 C=3"))
		for words, want := range map[string][]int{
			"":                        {0, 1, 2, 3, 4, 5, 6},
			"A=1":                     {0, 2, 4},
			"A=1 B=1":                 {2},
			"A=1 A=2":                 {0, 1, 2, 4},
			"A=1 A=2 B=1 B=2":         {1, 2},
			"A=1 A=2 A=3 B=2 B=3 C=3": {6},
			"A=1 B=3":                 nil,
			"A=1 + B=3":               {0, 2, 4, 6},
			"B=3 + A=1":               {0, 2, 4, 6},
			"A=2 B=1 + C=1":           {1, 3},
			"A=1 + A=1":               {0, 2, 4},
			"A=1 + A=1 B=1 + B=1":     {0, 1, 2, 4, 5},
			"D=1":                     nil,
			"D=1 + A=9 + B=1":         {1, 2, 5},
			"A=1 D=1":                 nil,
			"D=1 A=1 + C=9":           nil,
			"A=1 + A=2 + A=3 + B=2":   {0, 1, 2, 3, 4, 6},
			"A=1 + B=1 + B=2 + C=3":   {0, 1, 2, 3, 4, 5, 6},
		} {
			isFind(t, fmt.Sprint(s), f, compiled(t, words), want...)
		}
	}
}

// P18.1: with no rows, all right entries; with a row without Alts, likewise,
// whatever rows are beside it.
func TestFindOfAll(t *testing.T) {
	b := written(t, shape{2, true}, "A=1", "B=1", "A=1", "B=1")
	wrong := put(t, b, objects(t, b, api.Entry)[1]+entryXor, 1)
	for _, m := range []api.Match{
		{}, {Rows: [][]api.Alt{}}, of(nil), of(row()), of(nil, nil),
		of(nil, row(alt("A", "1"))), of(row(alt("A", "1")), nil), of(row(alt("C", "1")), nil), of(row(alt("A")), nil, row(alt("a", "1"))),
	} {
		isFind(t, "all", opened(t, b), m, 0, 1, 2, 3)
		isFind(t, "all but a wrong one", opened(t, wrong), m, 0, 2, 3)
		isFind(t, "no entries", opened(t, written(t, shape{2, true})), m)
	}
}

// P18.1: an Alt without values has none, whatever Alts are beside it; other rows
// hold nevertheless.
func TestFindOfNoValues(t *testing.T) {
	f := opened(t, written(t, shape{2, true}, "A=1", "A=", "A=1 B=1"))
	for _, m := range []api.Match{
		of(row(alt("A"))), of(row(alt("A"), alt("A", "1"))), of(row(alt("A", "1"), alt("A"))), of(row(alt("A", "1"), alt("C"))),
		of(row(alt(""))), of(row(alt("A")), row(alt("B"))), of(row(api.Alt{Name: "A", Values: []string{}})),
	} {
		isFind(t, "none", f, m)
	}
	isFind(t, "a row behind", f, of(row(alt("A")), row(alt("A", "1"))), 0, 2)
	isFind(t, "a row ahead", f, of(row(alt("A", "1")), row(alt("A"))), 0, 2)
	isFind(t, "a value of no bytes", f, of(row(alt("A", ""))), 1)
}

// P18.1: rows, Alts and values are asked for in whatever order they stand, be
// the match Right or not.
func TestFindOfMatchesThatAreNotRight(t *testing.T) {
	f := opened(t, written(t, shape{2, true}, "A=1", "A=2 B=1", "A=1 B=1", "A=1 A=2"))
	long := strings.Repeat("v", api.MaxValue+1)
	for _, c := range []struct {
		m    api.Match
		want []int
	}{
		{of(row(alt("A", "2", "1"))), []int{0, 1, 2, 3}},
		{of(row(alt("A", "1", "1"))), []int{0, 2, 3}},
		{of(row(alt("B", "1"), alt("A", "1"))), []int{2}},
		// Two Alts of one name: each has to be in.
		{of(row(alt("A", "1"), alt("A", "2"))), []int{3}},
		{of(row(alt("A", "1"), alt("A", "1"))), []int{0, 2, 3}},
		// Values and names that are none.
		{of(row(alt("A", long))), nil},
		{of(row(alt("A", long, "1"))), []int{0, 2, 3}},
		{of(row(alt("a", "1"))), nil},
		{of(row(alt("A", "1"), alt("a", "1"))), nil},
		{of(row(alt("", "A=1"))), nil},
		{of(row(alt("A=1", ""))), nil},
		{of(row(alt("a", "1")), row(alt("B", "1"))), []int{1, 2}},
		{of(nil, nil, row(alt("a", "1"))), []int{0, 1, 2, 3}},
	} {
		if match.Right(c.m) {
			t.Fatalf("%.300q is Right", c.m)
		}
		isFind(t, "not Right", f, c.m, c.want...)
	}
}

// P0.1: more than MaxWords, and a great many, are asked for likewise.
func TestFindOfManyWords(t *testing.T) {
	f := opened(t, written(t, shape{2, true}, "A=1", "A=2 B=1", "A=1 B=1"))
	var values []string
	for i := range 20000 {
		values = append(values, "x"+strconv.Itoa(i))
	}
	m := of(row(alt("A", append(values, "1")...)))
	isFind(t, "values", f, m, 0, 2)
	var alts []api.Alt
	for range 2000 {
		alts = append(alts, alt("A", "1", "2"), alt("B", "1"))
	}
	isFind(t, "Alts", f, of(alts), 1, 2)
	isFind(t, "Alts", f, of(append(alts, alt("B", "2"))))
	var rows [][]api.Alt
	for _, v := range values {
		rows = append(rows, row(alt("A", v)))
	}
	isFind(t, "rows", f, of(rows...))
	isFind(t, "rows", f, of(append(rows, row(alt("B", "1")))...), 1, 2)
}

// P18.1: Find asks what Has tells: wrong entries are left out, and what a broken
// chain hides.
func TestFindInAWrongJournal(t *testing.T) {
	b := written(t, shape{1, true}, "A=1", "A=2 B=1", "A=1 B=1", "B=1")
	l := objects(t, b, api.Entry)
	f := opened(t, put(t, b, l[2]+entryXor, 1))
	isFind(t, "a wrong entry", f, compiled(t, "A=1"), 0)
	isFind(t, "a wrong entry", f, compiled(t, "A=1 B=1"))
	isFind(t, "a wrong entry", f, compiled(t, "A=1 + B=1"), 0, 1, 3)
	f = opened(t, put(t, b, data(t, b, "A=2")+dataNextHash, 0))
	isFind(t, "no B=1", f, compiled(t, "B=1"))
	isFind(t, "no B=1", f, compiled(t, "A=1 A=2 B=1"))
	isFind(t, "no B=1", f, compiled(t, "A=1 A=2 + B=1"), 0, 1, 2)
	isFind(t, "no B=1", f, api.Match{}, 0, 1, 2, 3)
	f = opened(t, put(t, b, data(t, b, "B=1")+dataEntry, l[0]))
	isFind(t, "A=1 has B=1, too", f, compiled(t, "A=1 B=1"), 0, 2)
}
