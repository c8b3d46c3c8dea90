package match

import (
	"slices"
	"strings"
	"testing"

	"diurnal/api"
	"diurnal/field"
)

// P17.1: thrown words, right and wrong, against the chapter's words.
func TestThrownWords(t *testing.T) {
	pool := []string{
		"A=1", "A=2", "A=", "A=10", "A=9", "A1=1", "A1=", "AB=1", "A_=\xff", "B=1", "B=b=c", "B=+", "_=1", "Z=1",
		strings.Repeat("N", 64) + "=" + strings.Repeat("v", 256),
	}
	wrong := []string{"", "A", "a=1", "=", "++", "A=" + strings.Repeat("v", 257), "a=" + strings.Repeat("v", 257)}
	codeOf := func(word string) int {
		_, code := field.Split([]byte(word))
		return code
	}
	counts := map[int]int{}
	for seed := range uint64(20000) {
		throw := dice(seed)
		var words []string
		for range throw([]int{4, 12, 33, 35}[throw(4)]) {
			words = append(words, pool[throw(len(pool))])
			if throw(4) == 0 {
				words = append(words, "+")
			}
			if throw(60) == 0 {
				words = append(words, append(wrong, "+")[throw(len(wrong)+1)])
			}
		}
		if n := len(words); n > 0 && words[n-1] == "+" && throw(4) > 0 {
			words = words[:n-1]
		}
		want, code := plainCompile(words, codeOf)
		counts[code]++
		if code == api.Fine {
			isCompiled(t, words, want)
		} else {
			notCompiled(t, words, code)
		}
	}
	for _, code := range []int{api.Fine, api.ErrText, api.ErrLong} {
		if counts[code] < 1000 {
			t.Errorf("code %d came only %d times", code, counts[code])
		}
	}
}

// thrown answers a match of few parts, right or not, by the dice.
func thrown(throw func(n int) int) api.Match {
	names, texts := []string{"A", "A1", "B", "a", ""}, []string{"", "1", "10", "2", "3"}
	var m api.Match
	for range throw(4) {
		var r []api.Alt
		for range throw(4) {
			a := alt(names[throw(len(names)-2*throw(2))])
			for range throw(4) {
				a.Values = append(a.Values, texts[throw(len(texts))])
			}
			r = append(r, a)
		}
		m.Rows = append(m.Rows, r)
	}
	return m
}

// P17.2: thrown matches and pairs, against the chapter's words.
func TestThrownHolds(t *testing.T) {
	names, texts := []string{"A", "A1", "B", "a", ""}, []string{"", "1", "10", "2", "3"}
	held := 0
	for seed := range uint64(20000) {
		throw := dice(seed)
		m := thrown(throw)
		var l []api.Pair
		for range throw(8) {
			l = append(l, api.Pair{Name: names[throw(len(names))], Value: texts[throw(len(texts))]})
		}
		want := plainHolds(m, l)
		if want && len(m.Rows) > 0 {
			held++
		}
		isHeld(t, m, l, want)
	}
	if held < 1000 {
		t.Errorf("rows held only %d times", held)
	}
}

// P17.1: what is Right is just what comes of its own words.
func TestThrownRight(t *testing.T) {
	right := 0
	for seed := range uint64(20000) {
		m := thrown(dice(seed))
		var words []string
		for i, r := range m.Rows {
			if i > 0 {
				words = append(words, "+")
			}
			for _, a := range r {
				for _, v := range a.Values {
					words = append(words, a.Name+"="+v)
				}
			}
		}
		back, code := Compile(words)
		want := code == api.Fine && text(back) == text(m)
		isRight(t, m, want)
		if want {
			right++
			if !slices.Equal(Words(m), words) {
				t.Errorf("Words of %s: %q; want %q", text(m), Words(m), words)
			}
		}
	}
	if right < 1000 {
		t.Errorf("only %d were right", right)
	}
}

// P17.2: Same of thrown matches is that all they tell is the same.
func TestThrownSame(t *testing.T) {
	same := 0
	for seed := range uint64(20000) {
		throw := dice(seed)
		a, b := thrown(throw), thrown(throw)
		want := text(a) == text(b)
		isSame(t, a, b, want)
		isSame(t, a, copied(a), true)
		if want {
			same++
		}
	}
	if same < 500 {
		t.Errorf("only %d were the same", same)
	}
}
