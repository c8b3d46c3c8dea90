package query

import (
	"fmt"
	"slices"
	"strings"
	"testing"

	"diurnal/api"
	"diurnal/chain"
	"diurnal/check"
	"diurnal/entry"
	"diurnal/field"
	"diurnal/head"
	"diurnal/link"
)

// shapes answers journals of few and of many slots, keyed and not.
func shapes() []shape {
	return []shape{{1, false}, {1, true}, {3, true}, {api.MaxSlots, false}}
}

// P18.1: the entries that have the pair, whatever else they have.
func TestHas(t *testing.T) {
	for _, s := range shapes() {
		f := opened(t, written(t, s, "A=1", "A=2 B=1", "A=1 B=1", "B=2 C=1", "A=1 A=2", "A= B==", "AB=1 C=A=1"))
		for payload, want := range map[string][]int{
			"A=1": {0, 2, 4}, "A=2": {1, 4}, "B=1": {1, 2}, "B=2": {3}, "C=1": {3}, "A=": {5}, "B==": {5}, "AB=1": {6}, "C=A=1": {6},
			// No data has these, though some have parts of them.
			"A=3": nil, "C=2": nil, "D=1": nil, "A=12": nil, "A=11": nil, "B=": nil, "C=A": nil, "AA=1": nil, "A==1": nil,
		} {
			isHas(t, fmt.Sprint(s), f, pair(payload), want...)
		}
	}
}

// P18.1: where there are no entries, none has anything.
func TestHasOfNoEntries(t *testing.T) {
	for _, s := range shapes() {
		f := opened(t, written(t, s))
		for _, p := range []api.Pair{pair("A=1"), pair("A="), {}} {
			isHas(t, "a new journal", f, p)
		}
	}
}

// P18.1: so many that a chain has arrays of each size, told each once, and
// rising.
func TestHasOfMany(t *testing.T) {
	for _, n := range []int{1, 2, 4, 5, 6, 12, 13, 14, 28, 29, 30, 61, 62, 120} {
		var rows []string
		var all, thirds []int
		for i := range n {
			all = append(all, i)
			rows = append(rows, "A=1")
			if i%3 == 0 {
				thirds = append(thirds, i)
				rows[i] = "A=1 B=1"
			}
		}
		f := opened(t, written(t, shape{2, true}, rows...))
		isHas(t, fmt.Sprint(n), f, pair("A=1"), all...)
		isHas(t, fmt.Sprint(n), f, pair("B=1"), thirds...)
		isHas(t, fmt.Sprint(n), f, pair("B=2"))
	}
}

// P18.1: a pair that is not field.Right has none, not even where its bytes,
// put together, are those of one that is.
func TestHasOfPairsWhoseBytesAreAnothers(t *testing.T) {
	f := opened(t, written(t, shape{1, false}, "A=1=x", "A==", "A=1"))
	isHas(t, "right", f, api.Pair{Name: "A", Value: "1=x"}, 0)
	isHas(t, "right", f, api.Pair{Name: "A", Value: "="}, 1)
	for _, p := range []api.Pair{{Name: "A=1", Value: "x"}, {Name: "A=", Value: ""}, {Name: "A=1=x"}, {Name: "A=1"}, {Name: "", Value: "A=1"}, {Name: "A", Value: "=1"}, {Value: "1"}} {
		isHas(t, "wrong", f, p)
	}
}

// P18.1: the greatest name and the greatest value are right.
func TestHasAtTheEdges(t *testing.T) {
	name, value := strings.Repeat("N", api.MaxName), strings.Repeat("v", api.MaxValue)
	f := opened(t, written(t, shape{2, true}, "A="+value, name+"=1", name+"="+value))
	isHas(t, "value", f, api.Pair{Name: "A", Value: value}, 0)
	isHas(t, "name", f, api.Pair{Name: name, Value: "1"}, 1)
	isHas(t, "both", f, api.Pair{Name: name, Value: value}, 2)
	for _, p := range []api.Pair{
		{Name: "A", Value: value + "v"}, {Name: "A", Value: value[1:]}, {Name: name + "N", Value: "1"}, {Name: name[1:], Value: "1"},
		{Name: "a", Value: value}, {Name: "1", Value: value},
	} {
		isHas(t, "beside", f, p)
	}
}

// P18.1: a pair that is not field.Right has none, also where a Data has its
// payload, and an entry that is right.
func TestHasOfPairsThatAreNotRight(t *testing.T) {
	long, name := strings.Repeat("v", api.MaxValue), strings.Repeat("N", api.MaxName)
	for _, c := range []struct{ laid, turned string }{
		{"B=1", "b=1"}, {"B=1", "1=1"}, {"B=1", "_=1"}, {"B=1", "==1"}, {"B=1", " =1"}, {"B=1", "\x00=1"},
		{"BB=" + long, "B=" + long + "v"}, {name + "=11", name + "N=1"},
		// This one is right.
		{"B=1", "C=1"},
	} {
		p := pair(c.turned)
		b := written(t, shape{1, true}, "A=1", c.laid)
		at := data(t, b, c.laid)
		b = named(t, b, at, c.turned)
		b = put(t, b, at+dataEntry, objects(t, b, api.Entry)[0])
		f := opened(t, b)
		// What stands there would tell the first entry.
		d, code := chain.FindData(f.View(), []byte(c.turned))
		if l, _ := link.Of(f.View(), d); code != api.Fine || d != at || len(l) == 0 {
			t.Fatalf("%.300q: FindData: %d, %d; Of: %v", c.turned, d, code, l)
		}
		if field.Right(p) {
			isHas(t, c.turned, f, p, 0)
		} else {
			isHas(t, c.turned, f, p)
		}
	}
}

// P18.1: entries that are not right are not told, and hinder no others.
func TestHasOfWrongEntries(t *testing.T) {
	b := written(t, shape{2, true}, "A=1", "A=1 B=1", "A=1", "A=1 B=1", "B=1")
	l := objects(t, b, api.Entry)
	for _, c := range []struct {
		b        []byte
		one, two []int
	}{
		{b, []int{0, 1, 2, 3}, []int{1, 3, 4}},
		{put(t, b, l[1]+entryXor, 1), []int{0, 2, 3}, []int{3, 4}},
		{put(t, b, l[0]+entrySeq, 0), []int{1, 2, 3}, []int{1, 3, 4}},
		{put(t, b, l[0]+entrySeq, 4), []int{0}, []int{4}},
		{put(t, b, l[0]+entrySeq, 5), []int{0}, nil},
		{put(t, b, l[2]+entrySeq, 2), []int{0, 1, 3}, []int{1, 3, 4}},
		{put(t, b, l[3], api.Tag), []int{0, 1, 2}, []int{1, 4}},
		// Each entry that has a wrong Data is wrong: those that have B=1 beside
		// A=1 are not told of A=1.
		{put(t, b, data(t, b, "B=1")+dataHash, 1), []int{0, 2}, nil},
	} {
		f := opened(t, c.b)
		isHas(t, fmt.Sprint(f.Good()), f, pair("A=1"), c.one...)
		isHas(t, fmt.Sprint(f.Good()), f, pair("B=1"), c.two...)
	}
}

// P18.1: with a code that the list of the file's entries ends by, those ahead
// are told.
func TestHasOfAListCutShort(t *testing.T) {
	b := written(t, shape{2, true}, "A=1", "B=1", "A=1", "A=1", "A=1", "B=1")
	at := opened(t, b).Head().Array
	for item, want := range [][]int{nil, {0}, {0}, {0, 2}} {
		f := opened(t, put(t, b, at+arrayItems+8*uint64(item), 0))
		if f.Code() != api.ErrRange {
			t.Fatalf("Code %d", f.Code())
		}
		isHas(t, fmt.Sprint("without item ", item), f, pair("A=1"), want...)
	}
	f := opened(t, put(t, b, at+arrayNext, at))
	if f.Code() != api.ErrLoop {
		t.Fatalf("Code %d", f.Code())
	}
	isHas(t, "without an array", f, pair("A=1"), 0, 2, 3)
	isHas(t, "without an array", f, pair("B=1"), 1)
}

// P18.1: where FindData tells a code, none is told; what is met behind the Data
// that is found is not asked for.
func TestHasWhereNoDataIsFound(t *testing.T) {
	b := written(t, shape{1, true}, "A=1", "A=2", "A=3")
	one, two, three := data(t, b, "A=1"), data(t, b, "A=2"), data(t, b, "A=3")
	for _, c := range []struct {
		b    []byte
		code int
		have []bool
	}{
		{b, api.Fine, []bool{true, true, true}},
		{put(t, b, one+dataNextHash, 0), api.ErrNone, []bool{true, false, false}},
		{put(t, b, two+dataNextHash, uint64(len(b))), api.ErrNone, []bool{true, true, false}},
		{put(t, b, one+dataNextHash, three), api.Fine, []bool{true, false, true}},
		{put(t, b, two+dataNextHash, one), api.ErrLoop, []bool{true, true, false}},
		{put(t, b, two+dataNextHash, three+4), api.ErrAlign, []bool{true, true, false}},
		{put(t, b, one+dataNextHash, opened(t, b).Head().Array), api.ErrType, []bool{true, false, false}},
		{put(t, b, opened(t, b).Head().DataTable-16, api.FieldTable), api.ErrType, []bool{false, false, false}},
	} {
		f := opened(t, c.b)
		if _, code := chain.FindData(f.View(), []byte("A=3")); code != c.code || len(f.Good()) != 3 {
			t.Fatalf("FindData: %d; want %d; right are %v", code, c.code, f.Good())
		}
		for i, is := range c.have {
			p := api.Pair{Name: "A", Value: string([]byte{'1' + byte(i)})}
			if is {
				isHas(t, fmt.Sprint("code ", c.code), f, p, i)
			} else {
				isHas(t, fmt.Sprint("code ", c.code), f, p)
			}
		}
	}
}

// P18.1: where link.Of tells a code, what it tells beside it is told.
func TestHasWhereTheListEndsByACode(t *testing.T) {
	b := written(t, shape{1, true}, "A=1", "B=1", "A=1", "A=1", "A=1", "A=1", "A=1", "A=1")
	d, l := data(t, b, "A=1"), objects(t, b, api.Entry)
	array := get(t, b, d+dataArray)
	next := get(t, b, array+arrayNext)
	for _, c := range []struct {
		b    []byte
		code int
		want []int
	}{
		{b, api.Fine, []int{0, 2, 3, 4, 5, 6, 7}},
		{put(t, b, d+dataCount, 0), api.Fine, nil},
		{put(t, b, d+dataCount, 3), api.Fine, []int{0, 2, 3}},
		{put(t, b, d+dataCount, 1<<63), api.Fine, []int{0, 2, 3, 4, 5, 6, 7}},
		{put(t, b, d+dataEntry, 0), api.Fine, nil},
		{put(t, b, array+arrayItems+8, 0), api.Fine, []int{0, 2}},
		{put(t, b, array+arrayNext, 0), api.Fine, []int{0, 2, 3, 4, 5}},
		{put(t, b, array+arrayItems+8, l[0]), api.ErrOrder, []int{0, 2}},
		{put(t, b, d+dataEntry, l[4]), api.ErrOrder, []int{4}},
		{put(t, b, array+arrayNext, array), api.ErrLoop, []int{0, 2, 3, 4, 5}},
		{put(t, b, array+arrayNext, d), api.ErrLoop, []int{0, 2, 3, 4, 5}},
		{put(t, b, array+arrayNext, next+4), api.ErrAlign, []int{0, 2, 3, 4, 5}},
		{put(t, b, array+arrayNext, l[7]), api.ErrType, []int{0, 2, 3, 4, 5}},
		{put(t, b, d+dataArray, l[7]), api.ErrType, []int{0}},
	} {
		f := opened(t, c.b)
		if _, code := link.Of(f.View(), d); code != c.code || len(f.Good()) != 8 {
			t.Fatalf("Of: %d; want %d; right are %v", code, c.code, f.Good())
		}
		isHas(t, fmt.Sprint("code ", c.code), f, pair("A=1"), c.want...)
	}
}

// P18.1: it is told what link.Of tells, be the pair one of the entry's fields or
// not; places of no right entry, and such as the file's list has not, are not.
func TestHasOfWhatTheDataNames(t *testing.T) {
	b := written(t, shape{1, true}, "A=1", "B=1", "A=1", "A=1", "A=1", "A=1")
	d, l := data(t, b, "A=1"), objects(t, b, api.Entry)
	array := get(t, b, d+dataArray)
	isHas(t, "another entry", opened(t, put(t, b, array+arrayItems, l[1])), pair("A=1"), 0, 1, 3, 4, 5)
	isHas(t, "no entry", opened(t, put(t, b, array+arrayItems, data(t, b, "B=1"))), pair("A=1"), 0, 3, 4, 5)
	isHas(t, "within an entry", opened(t, put(t, b, array+arrayItems, l[1]+4)), pair("A=1"), 0, 3, 4, 5)
	isHas(t, "none first", opened(t, put(t, b, d+dataEntry, d)), pair("A=1"), 2, 3, 4, 5)
	// Right entries that the file's arrays don't name.
	f := opened(t, headed(t, b, func(h *head.Head) { h.Entries = 4 }))
	isHas(t, "four entries", f, pair("A=1"), 0, 2, 3)
	isHas(t, "four entries", f, pair("B=1"), 1)
	isHas(t, "no entries", opened(t, headed(t, b, func(h *head.Head) { h.Entries = 0 })), pair("A=1"))
}

// P18.1: of two Data of one payload it is the first that is asked, also where
// check takes the journal.
func TestHasOfAPayloadThatStandsTwice(t *testing.T) {
	b := written(t, shape{1, true}, "A=1", "A=2", "A=1")
	d, l := data(t, b, "A=2"), objects(t, b, api.Entry)
	b = named(t, b, d, "A=1")
	b = put(t, b, l[1]+entryXor, entry.Xor([][]byte{[]byte("A=1")}))
	b = put(t, b, l[1]+entryItems+itemHash, get(t, b, d+dataHash))
	f := opened(t, b)
	if at, code := check.Check(b); code != api.Fine || len(f.Good()) != 3 {
		t.Fatalf("Check: %d, %d; right are %v", at, code, f.Good())
	}
	isHas(t, "twice", f, pair("A=1"), 0, 2)
	isHas(t, "twice", f, pair("A=2"))
	isFind(t, "twice", f, compiled(t, "A=1"), 0, 2)
}

// P18.1: two Data may share an array: an entry that has one of them alone is told
// of both, also where check takes the journal.
func TestHasOfASharedArray(t *testing.T) {
	b := written(t, shape{1, true}, "A=1", "B=1", "A=1")
	d := data(t, b, "B=1")
	b = put(t, put(t, b, d+dataCount, 2), d+dataArray, get(t, b, data(t, b, "A=1")+dataArray))
	f := opened(t, b)
	if at, code := check.Check(b); code != api.Fine || len(f.Good()) != 3 {
		t.Fatalf("Check: %d, %d; right are %v", at, code, f.Good())
	}
	isHas(t, "shared", f, pair("A=1"), 0, 2)
	isHas(t, "shared", f, pair("B=1"), 1, 2)
	isFind(t, "shared", f, compiled(t, "A=1 B=1"), 2)
}

// P0.4: what is done to an answer no later one shows, and no answer shows what
// is done to another.
func TestAnswersAreNew(t *testing.T) {
	f := opened(t, written(t, shape{2, true}, "A=1", "A=1 B=1", "A=1", "B=1"))
	asks := map[string]func() []int{
		"Has":             func() []int { return Has(f, pair("A=1")) },
		"Find of no rows": func() []int { return Find(f, api.Match{}) },
		"Find of a row":   func() []int { return Find(f, of(row(alt("A", "1")))) },
		"Find of all":     func() []int { return Find(f, of(nil)) },
		"Good":            func() []int { return f.Good() },
	}
	for what, ask := range asks {
		first, want := ask(), slices.Clone(ask())
		all := first[:cap(first)]
		for i := range all {
			all[i] = -7
		}
		if got := ask(); !slices.Equal(got, want) {
			t.Errorf("%s: %v behind what was done to an answer; want %v", what, got, want)
		}
	}
}

// P0.5: what a call answers hangs on no call ahead.
func TestCallsLeaveNothing(t *testing.T) {
	b := written(t, shape{2, true}, "A=1", "A=1 B=1", "B=1")
	f := opened(t, b)
	for range 3 {
		isHas(t, "again", f, pair("A=1"), 0, 1)
		isHas(t, "again", f, pair("a=1"))
		isFind(t, "again", f, compiled(t, "A=1 B=1"), 1)
		isFind(t, "again", f, api.Match{}, 0, 1, 2)
		isHas(t, "again", f, pair("B=1"), 1, 2)
	}
	other := opened(t, written(t, shape{1, false}, "B=1"))
	isHas(t, "another file", other, pair("A=1"))
	isHas(t, "another file", other, pair("B=1"), 0)
}
