package cursor

import (
	"fmt"
	"math"
	"regexp"
	"strings"
	"testing"

	"diurnal/api"
)

// P19.1: 32 digits, a byte's higher half first; ID goes back.
func TestHex(t *testing.T) {
	for want, id := range map[string]api.ID{
		noughts:                            {},
		"01ab" + noughts[:26] + "f0":       {0x01, 0xab, 15: 0xf0},
		"00112233445566778899aabbccddeeff": {0, 0x11, 0x22, 0x33, 0x44, 0x55, 0x66, 0x77, 0x88, 0x99, 0xaa, 0xbb, 0xcc, 0xdd, 0xee, 0xff},
		"0123456789abcdeffedcba9876543210": {0x01, 0x23, 0x45, 0x67, 0x89, 0xab, 0xcd, 0xef, 0xfe, 0xdc, 0xba, 0x98, 0x76, 0x54, 0x32, 0x10},
		strings.Repeat("f", 32):            {255, 255, 255, 255, 255, 255, 255, 255, 255, 255, 255, 255, 255, 255, 255, 255},
	} {
		isHex(t, id, want)
	}
	for _, id := range ids() {
		isHex(t, id, fmt.Sprintf("%x", id[:]))
	}
}

// isHex tells where Hex of id is not want, or ID does not go back.
func isHex(t *testing.T, id api.ID, want string) {
	t.Helper()
	if got := Hex(id); got != want {
		t.Errorf("Hex of %v: %q; want %q", id, got, want)
	}
	if got, ok := ID(want); !ok || got != id {
		t.Errorf("ID of %q: %v, %v; want %v", want, got, ok, id)
	}
}

// P19.1: what is no Hex is no ID, with nothing beside.
func TestIDOfOthers(t *testing.T) {
	s := "0123456789abcdeffedcba9876543210"
	for _, bad := range []string{
		"", "0", s[1:], s[:31], s[2:], s + "0", "0" + s, s + "00", s + s, s + "\n", " " + s, s[:31] + " ",
		strings.ToUpper(s), s[:30] + "1A", "A" + s[1:], "g" + s[1:], s[:31] + "g", "0x" + s[2:], "+" + s[1:], "-" + s[1:], "_" + s[1:], s[:31] + "=",
		s[:8] + "-" + s[8:], s[:8] + "-" + s[9:], s[:31] + "\x00", "\x00" + s[1:], s[:30] + "é", s[:29] + "０", s[:31] + "\xff",
		strings.Repeat("x", 32), strings.Repeat("0", 64), strings.Repeat("0", 1<<20),
	} {
		if id, ok := ID(bad); ok || id != (api.ID{}) {
			t.Errorf("ID of %.80q: %v, %v", bad, id, ok)
		}
	}
}

// P19.1: of all texts near a Hex, ID takes just those that are one.
func TestIDOfNearTexts(t *testing.T) {
	is := regexp.MustCompile(`\A[0-9a-f]{32}\z`)
	taken := 0
	for _, s := range near("0123456789abcdeffedcba9876543210", allBytes()) {
		id, ok := ID(s)
		if ok != is.MatchString(s) || ok && Hex(id) != s || !ok && id != (api.ID{}) {
			t.Errorf("ID of %q: %v, %v", s, id, ok)
		}
		if ok {
			taken++
		}
	}
	if taken < 32*16 {
		t.Errorf("only %d were taken", taken)
	}
}

// P19.1: 16 digits, the highest first; Number goes back.
func TestFixed(t *testing.T) {
	for want, v := range map[string]uint64{
		"0000000000000000": 0, "0000000000000001": 1, "000000000000000a": 10, "0000000000000010": 16, "0000000000000abc": 0xabc,
		"0123456789abcdef": 0x0123456789abcdef, "fedcba9876543210": 0xfedcba9876543210,
		"7fffffffffffffff": math.MaxInt64, "8000000000000000": math.MaxInt64 + 1, "ffffffffffffffff": math.MaxUint64,
	} {
		isFixed(t, v, want)
	}
	for _, v := range numbers() {
		isFixed(t, v, fmt.Sprintf("%016x", v))
	}
}

// isFixed tells where Fixed of v is not want, or Number does not go back.
func isFixed(t *testing.T, v uint64, want string) {
	t.Helper()
	if got := Fixed(v); got != want {
		t.Errorf("Fixed of %d: %q; want %q", v, got, want)
	}
	if got, ok := Number(want); !ok || got != v {
		t.Errorf("Number of %q: %d, %v; want %d", want, got, ok, v)
	}
}

// P19.1: what is no Fixed is no Number, with nothing beside.
func TestNumberOfOthers(t *testing.T) {
	s := "0123456789abcdef"
	for _, bad := range []string{
		"", "0", "abc", s[1:], s[:15], s + "0", "0" + s, "00000000000000abc", s + s, s + "\n", " " + s, s[:15] + " ", " " + s[1:],
		strings.ToUpper(s), "0000000000000ABC", "A" + s[1:], "g" + s[1:], s[:15] + "g", "0x" + s[2:], "0X" + s[2:], "+" + s[1:], "-" + s[1:], "+" + s, "-" + s,
		"0_" + s[2:], "_" + s[1:], s[:15] + "_", s[:15] + ".", s[:14] + "é", s[:15] + "\x00", s[:15] + "\xff",
		strings.Repeat("0", 17), strings.Repeat("0", 32), strings.Repeat("0", 1<<20), "18446744073709551615", "18446744073709551616", "10000000000000000",
	} {
		if v, ok := Number(bad); ok || v != 0 {
			t.Errorf("Number of %.80q: %d, %v", bad, v, ok)
		}
	}
}

// P19.1: of all texts near a Fixed, Number takes just those that are one.
func TestNumberOfNearTexts(t *testing.T) {
	is := regexp.MustCompile(`\A[0-9a-f]{16}\z`)
	taken := 0
	for _, near := range [][]string{near("0123456789abcdef", allBytes()), near("fedcba9876543210", allBytes())} {
		for _, s := range near {
			v, ok := Number(s)
			if ok != is.MatchString(s) || ok && Fixed(v) != s || !ok && v != 0 {
				t.Errorf("Number of %q: %d, %v", s, v, ok)
			}
			if ok {
				taken++
			}
		}
	}
	if taken < 2*16*16 {
		t.Errorf("only %d were taken", taken)
	}
}
