package match

import (
	"slices"
	"strings"
	"testing"

	"diurnal/api"
)

// values answers n values, rising by bytes.
func values(n int) []string {
	var l []string
	for i := range n {
		l = append(l, strings.Repeat("x", i))
	}
	return l
}

// P17.1: a match that is Right, and its words.
func TestWords(t *testing.T) {
	for _, c := range []struct {
		m    api.Match
		want string
	}{
		{api.Match{}, ""},
		{of(), ""},
		{of(row(alt("A", "1"))), "A=1"},
		{of(row(alt("A", ""))), "A="},
		{of(row(alt("A", "", "=", "b=c"))), "A= A== A=b=c"},
		{of(row(alt("A", "1", "2"), alt("B", "3"))), "A=1 A=2 B=3"},
		{of(row(alt("A", "1")), row(alt("A", "1"))), "A=1 + A=1"},
		{of(row(alt("B", "9"), alt("C", "")), row(alt("A", "1", "2"), alt("D", "4")), row(alt("A", "+"))), "B=9 C= + A=1 A=2 D=4 + A=+"},
		{of(row(alt("A", "z"), alt("A0", "a"), alt("A1", ""), alt("AA", "1"), alt("A_", "1"))), "A=z A0=a A1= AA=1 A_=1"},
	} {
		isRight(t, c.m, true)
		if got := Words(c.m); !slices.Equal(got, strings.Fields(c.want)) {
			t.Errorf("Words of %s: %q; want %q", text(c.m), got, c.want)
		}
	}
	if got := Words(of(row(alt("A", "a b", "\xff\x00")))); !slices.Equal(got, []string{"A=a b", "A=\xff\x00"}) {
		t.Errorf("Words of any bytes: %q", got)
	}
}

// P17.1: a row that is wrong is so alone, and ahead of a right one, behind one
// and between two.
func TestRightOfWrongRows(t *testing.T) {
	long := strings.Repeat("x", 257)
	for _, r := range [][]api.Alt{
		{},
		row(alt("A")),
		row(alt("A", "1"), alt("B")),
		row(alt("A"), alt("B", "1")),
		row(alt("", "1")),
		row(alt("a", "1")),
		row(alt("0", "1")),
		row(alt("A=", "1")),
		row(alt("+", "1")),
		row(alt(strings.Repeat("A", 65), "1")),
		row(alt("A", "1"), alt("a", "1")),
		row(alt("", "1"), alt("A", "1")),
		row(alt("A", "1"), alt("A", "1")),
		row(alt("A", "1"), alt("A", "2")),
		row(alt("B", "1"), alt("A", "1")),
		row(alt("A1", "1"), alt("A", "1")),
		row(alt("_", "1"), alt("Z", "1")),
		row(alt("A", "1"), alt("C", "1"), alt("B", "1")),
		row(alt("A", "1"), alt("B", "1"), alt("B", "2")),
		row(alt("A", "1"), alt("B", "1"), alt("A", "1")),
		row(alt("A", "1", "1")),
		row(alt("A", "", "")),
		row(alt("A", "2", "1")),
		row(alt("A", "1", "")),
		row(alt("A", "9", "10")),
		row(alt("A", "1", "3", "2")),
		row(alt("A", "1", "2", "1")),
		row(alt("A", "\xff", "\x7f")),
		row(alt("A", "1"), alt("B", "2", "1")),
		row(alt("A", "2", "1"), alt("B", "1")),
		row(alt("A", long)),
		row(alt("A", "1", long)),
		row(alt("A", long, "y")),
		row(alt("A", strings.Repeat("é", 129))),
		row(alt("A", "1"), alt("B", long)),
	} {
		right := row(alt("A", "1"), alt("B", "", "2"))
		isRight(t, of(right), true)
		isRight(t, of(r), false)
		isRight(t, of(r, right), false)
		isRight(t, of(right, r), false)
		isRight(t, of(right, r, right), false)
		isRight(t, of(r, r), false)
	}
}

// P17.1: the longest name, the longest values, and any bytes that rise.
func TestRightOfLongOnes(t *testing.T) {
	long := strings.Repeat("A", 64)
	isRight(t, of(row(alt(long, "", strings.Repeat("x", 255), strings.Repeat("x", 256), strings.Repeat("y", 256)))), true)
	isRight(t, of(row(alt(long[:63], strings.Repeat("é", 128)), alt(long, "1"))), true)
	isRight(t, of(row(alt("A", "\x00", "\x00\x00", "\x01", "+", "1", "10", "9", "=", "B", "a", "\x7f", "é", "\xff"))), true)
	isRight(t, of(row(alt("A", "é", "\xff", "\xff\x00"), alt("A0", ""), alt("B", ""), alt("_", ""), alt("_0", ""))), true)
}

// P17.1: all values, and the rows but one, are at most 32 together.
func TestRightOfMany(t *testing.T) {
	for n := 1; n <= 40; n++ {
		isRight(t, of(row(alt("A", values(n)...))), n <= 32)
		isRight(t, of(row(alt("A", values(n)...), alt("B", "1"))), n+1 <= 32)
		isRight(t, of(row(alt("A", values(n)...)), row(alt("B", "1"))), n+2 <= 32)
		isRight(t, of(row(alt("B", "1")), row(alt("A", values(n)...), alt("B", "1", "2"))), n+4 <= 32)
		isRight(t, of(slices.Repeat([][]api.Alt{row(alt("A", "1"))}, n)...), n+n-1 <= 32)
		isRight(t, of(slices.Repeat([][]api.Alt{row(alt("A", "1"), alt("B", "1", "2"))}, n)...), 3*n+n-1 <= 32)
		var names []api.Alt
		for i := range n {
			names = append(names, alt("N"+strings.Repeat("_", i), "1"))
		}
		isRight(t, of(names), n <= 32)
	}
	isRight(t, of(make([][]api.Alt, 100)...), false)
	isRight(t, of(slices.Repeat([][]api.Alt{row(alt("A", "1"))}, 100000)...), false)
	isRight(t, of(row(alt("A", values(1000)...))), false)
}

// P0.4: nil and the empty list are the same, and what lies behind a list is not
// read.
func TestRightOfPartsOfLists(t *testing.T) {
	isRight(t, api.Match{Rows: [][]api.Alt{}}, true)
	isRight(t, of([]api.Alt(nil)), false)
	isRight(t, of(row(api.Alt{Name: "A", Values: []string{}})), false)
	rows := [][]api.Alt{row(alt("A", "1", "2", "1"), alt("B", "1"), alt("B", "1")), {}}
	isRight(t, of(rows...), false)
	rows[0][0].Values = rows[0][0].Values[:2]
	rows[0] = rows[0][:2]
	m := of(rows[:1]...)
	isRight(t, m, true)
	if got := Words(m); !slices.Equal(got, []string{"A=1", "A=2", "B=1"}) {
		t.Errorf("Words: %q", got)
	}
}

// P0.4: the words are new memory, spare room too.
func TestWordsShareNoMemory(t *testing.T) {
	m := of(row(alt("A", "1", "2"), alt("B", "3")), row(alt("A", "")))
	want := []string{"A=1", "A=2", "B=3", "+", "A="}
	one, other := Words(m), Words(m)
	clear(one[:cap(one)])
	if !slices.Equal(other, want) || !slices.Equal(Words(m), want) {
		t.Errorf("writing into the words shows in %q, %q", other, Words(m))
	}
}
