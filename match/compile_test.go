package match

import (
	"slices"
	"strconv"
	"strings"
	"testing"

	"diurnal/api"
)

// numbered answers n unlike words of one name, by their values' bytes.
func numbered(n int) []string {
	var words []string
	for i := range n {
		words = append(words, "N="+strings.Repeat("x", i))
	}
	return words
}

// P17.1: of no words, no rows.
func TestCompileOfNoWords(t *testing.T) {
	isCompiled(t, nil, api.Match{})
	isCompiled(t, []string{}, api.Match{})
	isCompiled(t, []string{"a", "+"}[:0], api.Match{})
}

// P17.1: the values of a name together, each once, the names and the values by
// their bytes, in whatever order they come.
func TestCompileOfARow(t *testing.T) {
	for _, c := range []struct {
		words []string
		want  api.Match
	}{
		{[]string{"A=1"}, of(row(alt("A", "1")))},
		{[]string{"A="}, of(row(alt("A", "")))},
		{[]string{"A=1", "A=2", "B=3"}, of(row(alt("A", "1", "2"), alt("B", "3")))},
		{[]string{"B=3", "A=1", "A=2"}, of(row(alt("A", "1", "2"), alt("B", "3")))},
		{[]string{"A=2", "B=3", "A=1"}, of(row(alt("A", "1", "2"), alt("B", "3")))},
		{[]string{"A=1", "A=1", "A=1"}, of(row(alt("A", "1")))},
		{[]string{"A=1", "B=1", "A=1", "B=2", "B=1"}, of(row(alt("A", "1"), alt("B", "1", "2")))},
		{[]string{"A=9", "A=10", "A=1", "A="}, of(row(alt("A", "", "1", "10", "9")))},
		{[]string{"A=b=c", "A==", "A=+", "A=="}, of(row(alt("A", "+", "=", "b=c")))},
		{[]string{"A=\xff", "A=é", "A=\x7f", "A=\x00", "A=a", "A=B"}, of(row(alt("A", "\x00", "B", "a", "\x7f", "é", "\xff")))},
		{[]string{"_=1", "A=1", "Z=1", "A1=1", "AB=1", "A_=1"}, of(row(alt("A", "1"), alt("A1", "1"), alt("AB", "1"), alt("A_", "1"), alt("Z", "1"), alt("_", "1")))},
		{[]string{"A1=1", "A=z", "A0="}, of(row(alt("A", "z"), alt("A0", ""), alt("A1", "1")))},
		{[]string{"A=1 ", "A= 1", "A=\n", "A=1"}, of(row(alt("A", "\n", " 1", "1", "1 ")))},
	} {
		isCompiled(t, c.words, c.want)
	}
}

// P17.1: rows as `+` parts them, in the order of the words, alike or not.
func TestCompileOfRows(t *testing.T) {
	for _, c := range []struct {
		words string
		want  api.Match
	}{
		{"A=1 + A=2", of(row(alt("A", "1")), row(alt("A", "2")))},
		{"B=2 + A=1", of(row(alt("B", "2")), row(alt("A", "1")))},
		{"A=1 + A=1", of(row(alt("A", "1")), row(alt("A", "1")))},
		{"A=1 + B=1 + A=1", of(row(alt("A", "1")), row(alt("B", "1")), row(alt("A", "1")))},
		{"B=3 A=2 A=1 A=2 + C= + B=1 A=9 B=1", of(row(alt("A", "1", "2"), alt("B", "3")), row(alt("C", "")), row(alt("A", "9"), alt("B", "1")))},
		{"A=+ + A=++ A=+", of(row(alt("A", "+")), row(alt("A", "+", "++")))},
	} {
		isCompiled(t, strings.Fields(c.words), c.want)
	}
}

// P17.1: `+` is ErrText, if it is the first, the last, or stands behind another
// one. What is not just `+` is no `+`.
func TestCompileOfParts(t *testing.T) {
	for _, words := range []string{
		"+", "+ +", "+ + +", "+ A=1", "A=1 +", "+ A=1 +", "A=1 + +", "+ + A=1", "A=1 + + A=1", "A=1 + A=1 +", "A=1 + B=1 + + C=1", "A=1 + + + A=1",
		"++", "A=1 ++ A=1", "+A=1", "A=1 +B=2", "A=1 +=1", "A=1 + +=1", "A+=1",
	} {
		notCompiled(t, strings.Fields(words), api.ErrText)
	}
	for _, w := range []string{" +", "+ ", "+\n", "+\x00", "\x00", "", "＋", "|"} {
		notCompiled(t, []string{w}, api.ErrText)
		notCompiled(t, []string{"A=1", w, "A=2"}, api.ErrText)
	}
}

// P17.1: of others, field.Split's code.
func TestCompileOfWrongWords(t *testing.T) {
	for w, want := range map[string]int{
		"": api.ErrText, "=": api.ErrText, "=1": api.ErrText, "A": api.ErrText, "a=1": api.ErrText, "0=1": api.ErrText, "A =1": api.ErrText, " A=1": api.ErrText, "Aa=1": api.ErrText, "É=1": api.ErrText,
		strings.Repeat("A", 65) + "=1":                             api.ErrText,
		"a=" + strings.Repeat("x", 257):                            api.ErrText,
		"A=" + strings.Repeat("x", 257):                            api.ErrLong,
		"A=" + strings.Repeat("é", 129):                            api.ErrLong,
		strings.Repeat("A", 64) + "=" + strings.Repeat("x", 70000): api.ErrLong,
	} {
		notCompiled(t, []string{w}, want)
		notCompiled(t, []string{"A=1", w}, want)
		notCompiled(t, []string{w, "A=1"}, want)
		notCompiled(t, []string{"A=1", "+", w}, want)
		notCompiled(t, []string{w, "+", "A=1"}, want)
		notCompiled(t, append(numbered(31), w), want)
	}
	long, value := strings.Repeat("A", 64), strings.Repeat("x", 256)
	isCompiled(t, []string{long + "=" + value, long + "="}, of(row(alt(long, "", value))))
}

// P17.1: the code is of the first word from the front that is amiss, be it a
// `+` or not.
func TestCompileTellsTheFirst(t *testing.T) {
	long := "A=" + strings.Repeat("x", 257)
	for _, c := range []struct {
		words []string
		want  int
	}{
		{[]string{"a", long}, api.ErrText},
		{[]string{long, "a"}, api.ErrLong},
		{[]string{"+", long}, api.ErrText},
		{[]string{long, "+"}, api.ErrLong},
		{[]string{"A=1", "+", "+", long}, api.ErrText},
		{[]string{"A=1", "+", long, "+", "+"}, api.ErrLong},
		{[]string{"A=1", long, "+", "+", "A=1"}, api.ErrLong},
		{[]string{"A=1", "+", "A=1", "+", "+", long, "a"}, api.ErrText},
		{[]string{"A=1", "+", long, "+"}, api.ErrLong},
		{[]string{"A=1", long, "a", "+"}, api.ErrLong},
		{[]string{"+", "+", long}, api.ErrText},
	} {
		notCompiled(t, c.words, c.want)
	}
	for at := range 32 {
		for other := range at {
			words := numbered(32)
			words[at], words[other] = "+", long
			notCompiled(t, words, api.ErrLong)
			words[at], words[other] = long, "a"
			notCompiled(t, words, api.ErrText)
		}
	}
}

// P17.1: ErrLong, ahead of all else, of more than 32 words, `+` and what comes
// twice among them.
func TestCompileOfManyWords(t *testing.T) {
	for n := 1; n <= 32; n++ {
		words := numbered(n)
		var values []string
		for _, w := range words {
			values = append(values, w[2:])
		}
		isCompiled(t, words, of(row(alt("N", values...))))
		slices.Reverse(words)
		isCompiled(t, words, of(row(alt("N", values...))))
		isCompiled(t, slices.Repeat([]string{"A=1"}, n), of(row(alt("A", "1"))))
	}
	var rows [][]api.Alt
	for n := 1; n <= 31; n += 2 {
		rows = append(rows, row(alt("A", "1")))
		words := slices.Repeat([]string{"A=1", "+"}, n)[:n]
		isCompiled(t, words, of(rows...))
		notCompiled(t, append(words, "+"), api.ErrText)
	}
	isCompiled(t, append(slices.Repeat([]string{"A=1", "+"}, 15), "A=1", "A=2"), of(append(rows[:15:15], row(alt("A", "1", "2")))...))
	for _, n := range []int{33, 34, 64, 1000} {
		notCompiled(t, numbered(n), api.ErrLong)
		notCompiled(t, slices.Repeat([]string{"A=1"}, n), api.ErrLong)
		notCompiled(t, slices.Repeat([]string{"A=1", "+"}, n)[:n], api.ErrLong)
		notCompiled(t, slices.Repeat([]string{"+"}, n), api.ErrLong)
		notCompiled(t, slices.Repeat([]string{"a"}, n), api.ErrLong)
		notCompiled(t, make([]string, n), api.ErrLong)
	}
}

// P17.1: a row for each name, a name for each row.
func TestCompileOfManyNames(t *testing.T) {
	var words []string
	var want []api.Alt
	for i := range 32 {
		name := "N" + strconv.Itoa(i+10)
		words = append(words, name+"=v")
		want = append(want, alt(name, "v"))
	}
	isCompiled(t, words, of(want))
	slices.Reverse(words)
	isCompiled(t, words, of(want))
	isCompiled(t, slices.Insert(words[16:], 8, "+"), of(want[8:16], want[:8]))
}

// P0.4: what lies behind the words is neither read nor written, and each list
// handed out is new memory, its spare room too.
func TestCompileSharesNoMemory(t *testing.T) {
	room := strings.Fields("A=3 B=1 A=1 A=2 B=2 C=1 C=2 C=3 + B=1 B=2 B=3 A=1 + A=1 + a")
	for n := 1; n < len(room); n++ {
		words := room[:n]
		m, code := Compile(words)
		if words[n-1] == "+" {
			notCompiled(t, words, api.ErrText)
			continue
		}
		want := text(m)
		if code != api.Fine || slices.Contains(room, "") || room[len(room)-1] != "a" {
			t.Fatalf("Compile of %q: %d, behind it %q", words, code, room[n:])
		}
		for i, r := range m.Rows {
			for j, a := range r {
				_ = append(a.Values, "other", "other")
				_ = append(r, alt("other"))
				if got := text(m); got != want {
					t.Errorf("writing behind Alt %d of row %d shows in %s; want %s", j, i, got, want)
				}
			}
		}
		for _, r := range m.Rows {
			for _, a := range r {
				clear(a.Values[:cap(a.Values)])
			}
			clear(r[:cap(r)])
		}
		clear(m.Rows[:cap(m.Rows)])
		isCompiledAs(t, words, want)
	}
}

// isCompiledAs tells where Compile of words is not that text.
func isCompiledAs(t *testing.T, words []string, want string) {
	t.Helper()
	if m, code := Compile(words); code != api.Fine || text(m) != want {
		t.Errorf("Compile of %q: %s, %d; want %s", words, text(m), code, want)
	}
}

// P17.1: what is written into the values of an Alt shows in no other one.
func TestCompiledAltsShareNoMemory(t *testing.T) {
	for at := range 4 {
		m, _ := Compile(strings.Fields("A=1 A=2 B=1 B=2 + A=1 A=2 B=1 B=2"))
		a := m.Rows[at/2][at%2]
		clear(a.Values[:cap(a.Values)])
		m.Rows[at/2][at%2] = alt("gone")
		for other := range 4 {
			want := alt(string(rune('A'+other%2)), "1", "2")
			if got := m.Rows[other/2][other%2]; other != at && (got.Name != want.Name || !slices.Equal(got.Values, want.Values)) {
				t.Errorf("writing into Alt %d shows in Alt %d: %q", at, other, got)
			}
		}
	}
}
