package field

import (
	"slices"
	"strconv"
	"strings"
	"testing"

	"diurnal/api"
)

// pairs are given as name, value, name, value ..
func pairs(texts ...string) []api.Pair {
	var l []api.Pair
	for i := 0; i < len(texts); i += 2 {
		l = append(l, api.Pair{Name: texts[i], Value: texts[i+1]})
	}
	return l
}

// numbered answers n unlike pairs, by Less.
func numbered(n int) []api.Pair {
	var l []api.Pair
	for i := range n {
		l = append(l, api.Pair{Name: "N", Value: strings.Repeat("x", i)})
	}
	return l
}

// P4.2: each pair of a list here is ahead of all behind it, and of no other.
// `=` is above the digits, below the letters and `_`.
func TestLessOfRisingPairs(t *testing.T) {
	for _, l := range [][]api.Pair{
		pairs("A0", "", "A9", "z", "A", "", "A", "1", "A", "2", "A", "=", "AA", "", "AB", "", "A_", "", "B", "", "_", ""),
		pairs("A", "", "A", "\x00", "A", "\x00\x00", "A", "\x01", "A", "\x7f", "A", "\x80", "A", "\xff", "A", "\xff\x00"),
		pairs("\x00", "", "", "", "", "\x00", "", "=", "", "a", "a", "", "a", "=", "a=", "z", "a", "=zz", "a\xff", "", "\xff", ""),
		pairs("A", strings.Repeat("x", 256), "A", strings.Repeat("x", 257), "A", strings.Repeat("x", 256)+"y", strings.Repeat("B", 64), "", strings.Repeat("B", 65), ""),
		pairs("A1", "z", "A", "a"),
		pairs("A", "10", "A", "9"),
		pairs("Z", "", "É", ""),
		numbered(40),
	} {
		for i, a := range l {
			for j, b := range l {
				if got := Less(a, b); got != (i < j) {
					t.Errorf("Less(%q, %q): %v", a, b, got)
				}
			}
		}
	}
}

// P4.2: unlike pairs whose bytes put together are the same: neither is less.
func TestLessOfOneText(t *testing.T) {
	same := pairs("A", "=B=C", "A=", "B=C", "A==B", "C")
	for _, a := range same {
		for _, b := range same {
			if Less(a, b) {
				t.Errorf("Less(%q, %q): true", a, b)
			}
		}
	}
}

// P4.2: of any two pairs, Less is as the bytes put together are.
func TestLessOfAllPairs(t *testing.T) {
	texts := []string{"", "=", "==", "A", "A=", "=A", "A0", "a", "\x00", "<", ">", "\xff", "AA", "A=A"}
	var all []api.Pair
	for _, name := range texts {
		for _, value := range texts {
			all = append(all, api.Pair{Name: name, Value: value})
		}
	}
	whole := func(p api.Pair) string { return strings.Join([]string{p.Name, p.Value}, "=") }
	for _, a := range all {
		for _, b := range all {
			if got := Less(a, b); got != (whole(a) < whole(b)) {
				t.Errorf("Less(%q, %q): %v", a, b, got)
			}
		}
	}
}

// listed tells where List of l is not want.
func listed(t *testing.T, l, want []api.Pair) {
	t.Helper()
	given := slices.Clone(l)
	got, code := List(l)
	if code != api.Fine || !slices.Equal(got, want) {
		t.Errorf("List of %.300q: %q, %d; want %q", l, got, code, want)
	}
	if !slices.Equal(l, given) {
		t.Errorf("List changed what it was handed: %.300q", l)
	}
}

// notListed tells where List of l does not tell the code, with nothing beside.
func notListed(t *testing.T, l []api.Pair, want int) {
	t.Helper()
	if got, code := List(l); code != want || len(got) > 0 {
		t.Errorf("List of %.300q: %q, %d; want %d", l, got, code, want)
	}
}

// P4.2: the pairs, each once, by Less: not by their names alone.
func TestListOrders(t *testing.T) {
	want := pairs("A0", "", "A9", "z", "A", "", "A", "1", "A", "2", "A", "=", "AA", "", "AB", "", "A_", "", "B", "", "_", "")
	listed(t, want, want)
	for cut := range want {
		turned := slices.Concat(want[cut:], want[:cut])
		listed(t, turned, want)
		slices.Reverse(turned)
		listed(t, turned, want)
		listed(t, slices.Concat(turned, want[:cut], turned), want)
		listed(t, want[cut:], want[cut:])
	}
	listed(t, pairs("A", "b"), pairs("A", "b"))
	listed(t, pairs("A", "b", "A", "b"), pairs("A", "b"))
	listed(t, pairs("A", "", "A1", ""), pairs("A1", "", "A", ""))
	listed(t, pairs("B", "x", "A", "x"), pairs("A", "x", "B", "x"))
	listed(t, pairs("A", "\xff", "A", "\x7f", "A", "é"), pairs("A", "\x7f", "A", "é", "A", "\xff"))
}

// P4.2: an empty list is ErrNone.
func TestListOfNone(t *testing.T) {
	notListed(t, nil, api.ErrNone)
	notListed(t, []api.Pair{}, api.ErrNone)
	notListed(t, numbered(3)[:0], api.ErrNone)
}

// P4.2: Join's code of the first that has one, wherever it stands, and ahead of
// too many.
func TestListOfWrongPairs(t *testing.T) {
	long := strings.Repeat("x", 257)
	noName, tooLong := api.Pair{Name: "a", Value: "b"}, api.Pair{Name: "A", Value: long}
	for _, n := range []int{0, 1, 15, 16, 17, 40} {
		for at := range n + 1 {
			for _, c := range []struct {
				wrong []api.Pair
				want  int
			}{
				{[]api.Pair{noName}, api.ErrArg},
				{[]api.Pair{{Name: "a", Value: long}}, api.ErrArg},
				{[]api.Pair{{}}, api.ErrArg},
				{[]api.Pair{tooLong}, api.ErrLong},
				{[]api.Pair{noName, tooLong}, api.ErrArg},
				{[]api.Pair{tooLong, noName}, api.ErrLong},
				{[]api.Pair{noName, noName}, api.ErrArg},
			} {
				notListed(t, slices.Insert(numbered(n), at, c.wrong...), c.want)
			}
			l := slices.Insert(numbered(n), at, noName)
			notListed(t, append(l, tooLong), api.ErrArg)
			l[at] = tooLong
			notListed(t, append(l, noName), api.ErrLong)
		}
	}
	for _, name := range wrongNames() {
		notListed(t, []api.Pair{{Name: "A"}, {Name: name}}, api.ErrArg)
	}
	listed(t, pairs("A", long[1:]), pairs("A", long[1:]))
}

// P4.2: at most 16 unlike ones, however many there are.
func TestListOfMany(t *testing.T) {
	for n := 1; n <= 16; n++ {
		l := numbered(n)
		listed(t, l, l)
		listed(t, slices.Repeat(l, 17), l)
	}
	for _, n := range []int{17, 18, 33, 200} {
		l := numbered(n)
		notListed(t, l, api.ErrLong)
		slices.Reverse(l)
		notListed(t, l, api.ErrLong)
		notListed(t, slices.Concat(slices.Repeat(l[:16], 9), l[16:17]), api.ErrLong)
	}
	// Unlike by the name alone, or by the value alone.
	var names []api.Pair
	for i := range 17 {
		names = append(names, api.Pair{Name: "N" + string(rune('A'+i)), Value: "v"})
	}
	listed(t, names[:16], names[:16])
	notListed(t, names, api.ErrLong)
	listed(t, slices.Repeat(numbered(16), 20000), numbered(16))
}

// P0.4: each list handed out is new memory, its spare room too, and what lies
// behind what is handed in is neither read nor written.
func TestListSharesNoMemory(t *testing.T) {
	for n := 1; n <= 16; n++ {
		room := numbered(20)
		room[n].Name = "none"
		one, _ := List(room[:n])
		other, code := List(room[:n])
		if code != api.Fine || !slices.Equal(other, numbered(n)) {
			t.Errorf("List with others behind: %q, %d", other, code)
		}
		clear(one[:cap(one)])
		want := numbered(20)
		want[n].Name = "none"
		if !slices.Equal(other, numbered(n)) || !slices.Equal(room, want) {
			t.Errorf("writing into a list of %d shows in %q, %q", n, other, room)
		}
		clear(room)
		if !slices.Equal(other, numbered(n)) {
			t.Errorf("writing into the argument shows in %q", other)
		}
	}
}

// P4.2: the values of one name, in their order, as often as they are there,
// whether the pairs are right or not.
func TestValuesOfName(t *testing.T) {
	l := pairs("B", "2", "A", "z", "AB", "no", "B", "1", "a", "low", "B", "2", "", "nameless", "A=", "sign", "B", "", "A", strings.Repeat("x", 300))
	for name, want := range map[string][]string{
		"A":  {"z", strings.Repeat("x", 300)},
		"B":  {"2", "1", "2", ""},
		"AB": {"no"}, "a": {"low"}, "": {"nameless"}, "A=": {"sign"},
		"b": nil, "C": nil, "ABC": nil, "B ": nil, "z": nil, "=": nil,
	} {
		if got := Values(l, name); !slices.Equal(got, want) {
			t.Errorf("Values of %q: %q; want %q", name, got, want)
		}
		if got := Values(nil, name); len(got) > 0 {
			t.Errorf("Values of %q in nothing: %q", name, got)
		}
		one, other := Values(l, name), Values(l, name)
		clear(one[:cap(one)])
		if !slices.Equal(other, want) || !slices.Equal(Values(l, name), want) {
			t.Errorf("writing into the Values of %q shows in %q, %q", name, other, l)
		}
	}
	if got := Values(l[:3], "B"); !slices.Equal(got, []string{"2"}) {
		t.Errorf("Values with others behind: %q", got)
	}
}

// same tells where Same of a and b, either way round, is not want.
func same(t *testing.T, a, b []api.Pair, want bool) {
	t.Helper()
	keptA, keptB := slices.Clone(a), slices.Clone(b)
	if Same(a, b) != want || Same(b, a) != want {
		t.Errorf("Same of %.200q, %.200q: %v, %v; want %v", a, b, Same(a, b), Same(b, a), want)
	}
	if !slices.Equal(a, keptA) || !slices.Equal(b, keptB) {
		t.Errorf("Same changed what it was handed: %.200q, %.200q", a, b)
	}
}

// P4.2: each pair of one is in the other, in any order, and any number of times.
func TestSameOfPairs(t *testing.T) {
	ab := pairs("A", "1", "B", "2")
	same(t, nil, nil, true)
	same(t, nil, []api.Pair{}, true)
	same(t, ab, ab, true)
	same(t, ab, pairs("B", "2", "A", "1"), true)
	same(t, ab, pairs("B", "2", "A", "1", "B", "2"), true)
	same(t, pairs("A", "1", "A", "1"), pairs("A", "1"), true)
	same(t, pairs("A", "1", "A", "1", "B", "2"), pairs("A", "1", "B", "2", "B", "2"), true)
	same(t, pairs("a", "", "", ""), pairs("", "", "a", ""), true)
	same(t, ab, nil, false)
	same(t, pairs("", ""), nil, false)
	same(t, ab, ab[:1], false)
	same(t, ab, ab[1:], false)
	same(t, pairs("A", "1", "A", "1"), ab, false)
	same(t, pairs("A", "2", "B", "1"), ab, false)
	same(t, pairs("A", "1", "C", "2"), ab, false)
	same(t, pairs("A", "1", "B", "3"), ab, false)
	same(t, pairs("A", "1", "b", "2"), ab, false)
}

// P4.2: pairs are the same by Name and Value, not by both put together.
func TestSameOfOneText(t *testing.T) {
	same(t, pairs("A", "=B"), pairs("A=", "B"), false)
	same(t, pairs("AB", "C"), pairs("A", "BC"), false)
	same(t, pairs("", "A"), pairs("A", ""), false)
	same(t, pairs("A", "=B", "A=", "B"), pairs("A=", "B", "A", "=B"), true)
}

// P4.2: lists far longer than an entry's.
func TestSameOfLongLists(t *testing.T) {
	var l []api.Pair
	for i := range 50000 {
		l = append(l, api.Pair{Name: "N", Value: strconv.Itoa(i)})
	}
	turned := slices.Clone(l)
	slices.Reverse(turned)
	same(t, l, turned, true)
	same(t, l, turned[1:], false)
	turned[7].Value = "7th"
	same(t, l, turned, false)
}

func someRecord() api.Record {
	return api.Record{Seq: 1, Real: 2, Mono: 3, Boot: api.ID{4, 15: 5}, Fields: pairs("A", "1", "B", "2", "A", "1")}
}

// P4.2: SameRecord asks for each of Seq, Real, Mono, Boot and Fields.
func TestSameRecordOfEachPart(t *testing.T) {
	r := someRecord()
	if !SameRecord(r, someRecord()) || !SameRecord(api.Record{}, api.Record{}) {
		t.Error("SameRecord of like ones: false")
	}
	changes := map[string]func(r *api.Record){
		"Seq": func(r *api.Record) { r.Seq++ }, "high Seq": func(r *api.Record) { r.Seq += 1 << 63 },
		"Real": func(r *api.Record) { r.Real++ }, "high Real": func(r *api.Record) { r.Real += 1 << 63 },
		"Mono": func(r *api.Record) { r.Mono++ }, "high Mono": func(r *api.Record) { r.Mono += 1 << 63 },
		"Seq and Real":   func(r *api.Record) { r.Seq, r.Real = r.Real, r.Seq },
		"Real and Mono":  func(r *api.Record) { r.Real, r.Mono = r.Mono, r.Real },
		"all but Fields": func(r *api.Record) { *r = api.Record{Fields: r.Fields} },
	}
	for i := range r.Boot {
		changes["Boot "+strconv.Itoa(i)] = func(r *api.Record) { r.Boot[i] ^= 0x80 }
	}
	for name, change := range changes {
		s := someRecord()
		change(&s)
		if SameRecord(r, s) || SameRecord(s, r) {
			t.Errorf("SameRecord with another %s: true", name)
		}
	}
}

// P4.2: the Fields one by one, in their order.
func TestSameRecordOfFields(t *testing.T) {
	r := someRecord()
	for _, l := range [][]api.Pair{
		nil, r.Fields[:1], r.Fields[:2], r.Fields[1:],
		pairs("B", "2", "A", "1", "A", "1"), pairs("A", "1", "A", "1", "B", "2"), pairs("A", "1", "B", "2", "B", "2"),
		pairs("A", "1", "B", "2", "A", "1", "A", "1"), pairs("A", "1", "B", "2", "A", "1", "", ""),
		pairs("A", "1", "B", "2", "A", "2"), pairs("A", "1", "B", "2", "C", "1"), pairs("A", "1", "B", "2", "A", ""),
	} {
		s := someRecord()
		s.Fields = l
		if SameRecord(r, s) || SameRecord(s, r) {
			t.Errorf("SameRecord of Fields %q, %q: true", r.Fields, l)
		}
		if !SameRecord(s, s) {
			t.Errorf("SameRecord of Fields %q and themselves: false", l)
		}
	}
	none, empty := api.Record{Seq: 1}, api.Record{Seq: 1, Fields: []api.Pair{}}
	if !SameRecord(none, empty) || !SameRecord(empty, none) {
		t.Error("SameRecord of nil and empty Fields: false")
	}
	r.Fields, none.Fields = pairs("A", "=B"), pairs("A=", "B")
	none.Seq, none.Real, none.Mono, none.Boot = r.Seq, r.Real, r.Mono, r.Boot
	if SameRecord(r, none) {
		t.Error("SameRecord of pairs whose bytes put together are the same: true")
	}
}

// P4.2: List's order is that of Less, of pairs of all lengths.
func TestListIsByLess(t *testing.T) {
	var all []api.Pair
	for i, name := range rightNames() {
		all = append(all, api.Pair{Name: name, Value: "v"}, api.Pair{Name: name, Value: strings.Repeat("=", i)})
	}
	for at := range len(all) - 15 {
		in := all[at : at+16]
		l, code := List(in)
		if code != api.Fine || !Same(l, in) {
			t.Errorf("List of %q: %q, %d", in, l, code)
		}
		for i := range len(l) - 1 {
			if !Less(l[i], l[i+1]) {
				t.Errorf("List of %q: %q ahead of %q", in, l[i], l[i+1])
			}
		}
	}
}
