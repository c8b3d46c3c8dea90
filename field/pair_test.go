package field

import (
	"bytes"
	"slices"
	"strings"
	"testing"

	"diurnal/api"
)

// letters are the bytes that a name may have, those that it may begin with
// first.
const (
	letters = "ABCDEFGHIJKLMNOPQRSTUVWXYZ_0123456789"
	firsts  = 27
)

// wrongNames are names that are none, each for a reason of its own.
func wrongNames() []string {
	return []string{
		"", "a", "z", "Aa", "0", "9", "0A", "9_", "1_A", "-", "A-", "A B", " A", "A ", "A\n", "\x00", "A\x00", "A=", "=", "=A",
		"A=B", "A.", "A/", "A:", "A@", "A[", "A^", "A`", "\x80", "A\xff", "É", "AÉ", "Ａ", "١", "A١",
		strings.Repeat("Z", 65), strings.Repeat("_", 1000), strings.Repeat("A", 64) + "=", strings.Repeat("A", 63) + "a",
	}
}

// rightNames are of each length that a name may have.
func rightNames() []string {
	names := []string{"_", "A9", "Z0", "_0", "__", "MESSAGE", "_PID", "PRIORITY", "_SYSTEMD_UNIT"}
	for n := 1; n <= 64; n++ {
		names = append(names, strings.Repeat(letters, 3)[n%firsts:][:n])
	}
	return names
}

// rightValues are of any bytes, up to the greatest length.
func rightValues() []string {
	values := []string{"", "=", "==", "b=c", "=b", "b=", "\x00", "\n", "\xff\xfe", "a\x00b", "A=b", " ", "é", strings.Repeat("é", 128)}
	for c := range 256 {
		values = append(values, string([]byte{byte(c)}))
	}
	for _, n := range []int{2, 63, 64, 65, 127, 128, 255, 256} {
		values = append(values, strings.Repeat("x", n), strings.Repeat("=", n), strings.Repeat("\x80", n))
	}
	return values
}

// longValues are those that are too long, some of few runes.
func longValues() []string {
	return []string{strings.Repeat("x", 257), strings.Repeat("=", 257), strings.Repeat("\x00", 257), strings.Repeat("é", 129), strings.Repeat("x", 512), strings.Repeat("y", 70000)}
}

// P4.1: each byte, as the first, behind it, and as the last.
func TestNameOfEachByte(t *testing.T) {
	for c := range 256 {
		at := strings.IndexByte(letters, byte(c))
		s := string([]byte{byte(c)})
		for name, want := range map[string]bool{
			s: at >= 0 && at < firsts, s + "A": at >= 0 && at < firsts, s + "0": at >= 0 && at < firsts,
			"A" + s: at >= 0, "_" + s + "_": at >= 0, strings.Repeat("B", 63) + s: at >= 0,
		} {
			if Name(name) != want {
				t.Errorf("Name of %q: %v; want %v", name, !want, want)
			}
		}
	}
}

// P4.1: 1 to 64 bytes.
func TestNameOfEachLength(t *testing.T) {
	for n := range 200 {
		for _, c := range []string{"A", "_", "Z"} {
			if got := Name(strings.Repeat(c, n)); got != (n >= 1 && n <= 64) {
				t.Errorf("Name of %d bytes %s: %v", n, c, got)
			}
		}
	}
	for _, s := range rightNames() {
		if !Name(s) {
			t.Errorf("Name of %q: false", s)
		}
	}
	for _, s := range wrongNames() {
		if Name(s) {
			t.Errorf("Name of %q: true", s)
		}
	}
}

// P4.1: Right and Join ask for a Name, then for a Value of at most 256 bytes,
// whatever they are.
func TestRightAndJoinOfRightPairs(t *testing.T) {
	for _, name := range rightNames() {
		for _, value := range rightValues() {
			p := api.Pair{Name: name, Value: value}
			if !Right(p) {
				t.Errorf("Right of %q: false", p)
			}
			if b, code := Join(p); code != api.Fine || string(b) != name+"="+value {
				t.Errorf("Join of %q: %q, %d", p, b, code)
			}
		}
	}
}

// P4.1: wrong pairs; a Name that is none is told ahead of a Value that is too
// long.
func TestRightAndJoinOfWrongPairs(t *testing.T) {
	refused := func(p api.Pair, want int) {
		t.Helper()
		if Right(p) {
			t.Errorf("Right of %q: true", p)
		}
		if b, code := Join(p); code != want || len(b) > 0 {
			t.Errorf("Join of %q: %q, %d; want %d", p, b, code, want)
		}
	}
	for _, name := range wrongNames() {
		for _, value := range slices.Concat(rightValues(), longValues()) {
			refused(api.Pair{Name: name, Value: value}, api.ErrArg)
		}
	}
	for _, name := range rightNames() {
		for _, value := range longValues() {
			refused(api.Pair{Name: name, Value: value}, api.ErrLong)
		}
	}
}

// P4.1: Split takes the first sign, and answers what Join was handed.
func TestSplitOfPayloads(t *testing.T) {
	for _, name := range rightNames() {
		for _, value := range rightValues() {
			want := api.Pair{Name: name, Value: value}
			if p, code := Split([]byte(name + "=" + value)); code != api.Fine || p != want {
				t.Errorf("Split of %q: %q, %d", want, p, code)
			}
		}
	}
	if p, code := Split([]byte("A=b=c")); code != api.Fine || p != (api.Pair{Name: "A", Value: "b=c"}) {
		t.Errorf("Split of the chapter's example: %q, %d", p, code)
	}
}

// splitRefused tells where Split does not tell the code, with nothing beside.
func splitRefused(t *testing.T, b string, want int) {
	t.Helper()
	if p, code := Split([]byte(b)); code != want || p != (api.Pair{}) {
		t.Errorf("Split of %.80q (%d bytes): %q, %d; want %d", b, len(b), p, code, want)
	}
}

// P4.1: no sign, or no name ahead of the first one, is ErrText; so it is ahead
// of a value that is too long.
func TestSplitOfNoName(t *testing.T) {
	for _, b := range []string{"", "A", "a", "MESSAGE", "=", "==", "=A", "=A=b", strings.Repeat("A", 64), strings.Repeat("A", 400), "A:b", "A\xbdb"} {
		splitRefused(t, b, api.ErrText)
	}
	splitRefused(t, "a=b", api.ErrText)
	for _, name := range wrongNames() {
		if strings.Contains(name, "=") {
			continue // the name ends ahead of the sign
		}
		for _, value := range slices.Concat(rightValues(), longValues()) {
			splitRefused(t, name+"="+value, api.ErrText)
		}
	}
	if p, code := Split(nil); code != api.ErrText || p != (api.Pair{}) {
		t.Errorf("Split of nil: %q, %d", p, code)
	}
}

// P4.1: more than 256 bytes behind the first sign are ErrLong, whatever they
// are.
func TestSplitOfLongValues(t *testing.T) {
	for _, name := range rightNames() {
		for _, value := range longValues() {
			splitRefused(t, name+"="+value, api.ErrLong)
		}
	}
	splitRefused(t, "A="+strings.Repeat("x", 255)+"=b", api.ErrLong)
}

// P0.4: a pair keeps none of the bytes that it was split from, and those behind
// them are not read.
func TestSplitKeepsNoBytes(t *testing.T) {
	room := []byte("NAME=value=more")
	p, code := Split(room[:10])
	if code != api.Fine || p != (api.Pair{Name: "NAME", Value: "value"}) {
		t.Errorf("Split with bytes behind: %q, %d", p, code)
	}
	if p, code := Split(room[:4]); code != api.ErrText || p != (api.Pair{}) {
		t.Errorf("Split with the sign behind: %q, %d", p, code)
	}
	if string(room) != "NAME=value=more" {
		t.Errorf("Split changed what it was handed: %q", room)
	}
	clear(room)
	if p != (api.Pair{Name: "NAME", Value: "value"}) {
		t.Errorf("writing into the argument shows in %q", p)
	}
}

// P0.4: each payload is new memory, its spare room too.
func TestJoinSharesNoMemory(t *testing.T) {
	for _, value := range rightValues() {
		p := api.Pair{Name: "NAME", Value: value}
		one, _ := Join(p)
		other, _ := Join(p)
		for i := range one[:cap(one)] {
			one[:cap(one)][i] ^= 0xff
		}
		if !bytes.Equal(other, []byte("NAME="+value)) || p.Name != "NAME" || p.Value != value {
			t.Errorf("writing into a payload shows in %q, %q", other, p)
		}
	}
}
