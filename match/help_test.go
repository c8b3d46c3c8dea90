package match

import (
	"fmt"
	"maps"
	"slices"
	"strings"
	"testing"

	"diurnal/api"
)

// alt, row and of lay a match by hand, be it right or not.
func alt(name string, values ...string) api.Alt {
	return api.Alt{Name: name, Values: values}
}

func row(l ...api.Alt) []api.Alt { return l }

func of(rows ...[]api.Alt) api.Match { return api.Match{Rows: rows} }

// list answers pairs that are given as name, value, name, value ..
func list(texts ...string) []api.Pair {
	var l []api.Pair
	for i := 0; i < len(texts); i += 2 {
		l = append(l, api.Pair{Name: texts[i], Value: texts[i+1]})
	}
	return l
}

// text tells all of a match, nil and empty lists as one.
func text(m api.Match) string { return fmt.Sprintf("%q", m.Rows) }

// copied answers a match that shares no list with m.
func copied(m api.Match) api.Match {
	var out api.Match
	for _, r := range m.Rows {
		var l []api.Alt
		for _, a := range r {
			l = append(l, alt(a.Name, slices.Clone(a.Values)...))
		}
		out.Rows = append(out.Rows, l)
	}
	return out
}

// isCompiled tells where Compile of words is not want, and where what follows
// of it doesn't hold.
func isCompiled(t *testing.T, words []string, want api.Match) api.Match {
	t.Helper()
	given := slices.Clone(words)
	m, code := Compile(words)
	if code != api.Fine || text(m) != text(want) {
		t.Errorf("Compile of %.300q: %.300s, %d; want %.300s", words, text(m), code, text(want))
	}
	if !slices.Equal(words, given) {
		t.Errorf("Compile changed what it was handed: %.300q", words)
	}
	if !Right(m) {
		t.Errorf("Compile of %.300q is not Right", words)
	}
	again, code := Compile(Words(m))
	if code != api.Fine || text(again) != text(m) {
		t.Errorf("Compile of the Words of %.300s: %.300s, %d", text(m), text(again), code)
	}
	return m
}

// notCompiled tells where Compile of words does not tell the code, with nothing
// beside.
func notCompiled(t *testing.T, words []string, want int) {
	t.Helper()
	if m, code := Compile(words); code != want || len(m.Rows) > 0 {
		t.Errorf("Compile of %.300q: %.300s, %d; want %d", words, text(m), code, want)
	}
}

// isRight tells where Right of m is not want, and where Words has none though m
// is right, or some though it is not.
func isRight(t *testing.T, m api.Match, want bool) {
	t.Helper()
	given := copied(m)
	if got := Right(m); got != want {
		t.Errorf("Right of %.300s: %v", text(m), got)
	}
	words := Words(m)
	if (len(words) > 0) != (want && len(m.Rows) > 0) {
		t.Errorf("Words of %.300s: %.300q", text(m), words)
	}
	if want {
		if back, code := Compile(words); code != api.Fine || text(back) != text(m) {
			t.Errorf("Compile of %.300q: %.300s, %d; want %.300s", words, text(back), code, text(m))
		}
	}
	if text(m) != text(given) {
		t.Errorf("what was handed in is changed: %.300s", text(m))
	}
}

// isHeld tells where Holds of m and l is not want.
func isHeld(t *testing.T, m api.Match, l []api.Pair, want bool) {
	t.Helper()
	given, pairs := copied(m), slices.Clone(l)
	if got := Holds(m, l); got != want {
		t.Errorf("Holds of %.300s and %.300q: %v", text(m), l, got)
	}
	if text(m) != text(given) || !slices.Equal(l, pairs) {
		t.Errorf("what was handed in is changed: %.300s, %.300q", text(m), l)
	}
}

// isSame tells where Same of a and b, either way round, is not want.
func isSame(t *testing.T, a, b api.Match, want bool) {
	t.Helper()
	if Same(a, b) != want || Same(b, a) != want {
		t.Errorf("Same of %.300s and %.300s: %v, %v", text(a), text(b), Same(a, b), Same(b, a))
	}
}

// plainCompile reckons Compile by the chapter's words. The words' own codes are
// handed in; no word has a byte of 0.
func plainCompile(words []string, codeOf func(word string) int) (api.Match, int) {
	if len(words) > 32 {
		return api.Match{}, api.ErrLong
	}
	for i, w := range words {
		if w == "+" && (i == 0 || i == len(words)-1 || words[i-1] == "+") {
			return api.Match{}, api.ErrText
		}
		if w != "+" && codeOf(w) != api.Fine {
			return api.Match{}, codeOf(w)
		}
	}
	var m api.Match
	if len(words) == 0 {
		return m, api.Fine
	}
	for _, r := range strings.Split(strings.Join(words, "\x00"), "\x00+\x00") {
		values := map[string]map[string]bool{}
		for _, w := range strings.Split(r, "\x00") {
			name, value, _ := strings.Cut(w, "=")
			if values[name] == nil {
				values[name] = map[string]bool{}
			}
			values[name][value] = true
		}
		var l []api.Alt
		for _, name := range slices.Sorted(maps.Keys(values)) {
			l = append(l, alt(name, slices.Sorted(maps.Keys(values[name]))...))
		}
		m.Rows = append(m.Rows, l)
	}
	return m, api.Fine
}

// plainHolds reckons Holds by the chapter's words.
func plainHolds(m api.Match, l []api.Pair) bool {
	held := len(m.Rows) == 0
	for _, r := range m.Rows {
		all := true
		for _, a := range r {
			one := false
			for _, v := range a.Values {
				for _, p := range l {
					one = one || p.Name == a.Name && p.Value == v
				}
			}
			all = all && one
		}
		held = held || all
	}
	return held
}

// dice answers throws from 0 to below n, the same ones for a seed.
func dice(seed uint64) func(n int) int {
	state := seed*0x9e3779b97f4a7c15 + 1
	return func(n int) int {
		state = state*6364136223846793005 + 1442695040888963407
		return int(state >> 33 % uint64(n))
	}
}
