package cursor

import (
	"math"
	"slices"
	"strings"
	"testing"

	"diurnal/api"
)

// isShown tells where Show of c is not want, or Parse does not go back.
func isShown(t *testing.T, c Cursor, want string) {
	t.Helper()
	if got := Show(c); got != want {
		t.Errorf("Show of %v: %q; want %q", c, got, want)
	}
	if got, ok := Parse(want); !ok || got != c {
		t.Errorf("Parse of %q: %v, %v; want %v", want, got, ok, c)
	}
}

// notParsed tells where Parse takes s, or tells something beside.
func notParsed(t *testing.T, s string) {
	t.Helper()
	if c, ok := Parse(s); ok || c != (Cursor{}) {
		t.Errorf("Parse of %.200q: %v, %v", s, c, ok)
	}
}

// P19.2: the parts, each at its place, numbers with no 0 ahead of others.
func TestShow(t *testing.T) {
	most := strings.Repeat("f", 16)
	isShown(t, Cursor{}, "s="+noughts+";i=0;b="+noughts+";m=0;t=0;x=0")
	isShown(t, some(), "s=01ab"+noughts[:26]+"f0;i=10;b=fe"+noughts[:28]+"09;m=a;t=ff0;x="+most)
	isShown(t, Cursor{Seq: api.ID{15: 1}}, "s="+noughts[1:]+"1;i=0;b="+noughts+";m=0;t=0;x=0")
	isShown(t, Cursor{Boot: api.ID{0x10}}, "s="+noughts+";i=0;b=1"+noughts[1:]+";m=0;t=0;x=0")
	isShown(t, Cursor{N: math.MaxUint64}, "s="+noughts+";i="+most+";b="+noughts+";m=0;t=0;x=0")
	isShown(t, Cursor{Mono: math.MaxUint64}, "s="+noughts+";i=0;b="+noughts+";m="+most+";t=0;x=0")
	isShown(t, Cursor{Real: math.MaxUint64}, "s="+noughts+";i=0;b="+noughts+";m=0;t="+most+";x=0")
	isShown(t, Cursor{Xor: math.MaxUint64}, "s="+noughts+";i=0;b="+noughts+";m=0;t=0;x="+most)
}

// P19.2: each number and each ID in each part.
func TestShowOfEachPart(t *testing.T) {
	for _, v := range numbers() {
		for _, c := range []Cursor{{N: v}, {Mono: v}, {Real: v}, {Xor: v}, {N: v, Mono: ^v, Real: v / 3, Xor: v * 5}} {
			isShown(t, c, plainShow(c))
		}
	}
	for _, id := range ids() {
		for _, c := range []Cursor{{Seq: id}, {Boot: id}} {
			isShown(t, c, plainShow(c))
		}
	}
	for _, c := range cursors(5000) {
		isShown(t, c, plainShow(c))
	}
}

// P19.2: what is no Show, in one part or beside them.
func TestParseOfOthers(t *testing.T) {
	s := Show(some())
	for _, c := range [][2]string{
		{"s=", ""}, {"s=", "S="}, {"s=", " s="}, {"s=", "s= "}, {"s=", ";s="}, {"s=", "s=s="}, {"s=", "s:"}, {"s=", "s"}, {"s=", "s=="},
		{"s=01", "s="}, {"s=01", "s=1"}, {"s=01", "s=001"}, {"s=01", "s=0x01"}, {"01ab", "01AB"}, {"01ab", "01ag"}, {"01ab", "+1ab"},
		{";i=", ";"}, {";i=", "i="}, {";i=", ";;i="}, {";i=", "; i="}, {";i=", " ;i="}, {";i=", ",i="}, {";i=", ";i"}, {";i=", ";I="}, {";i=", ";n="}, {";i=10;", ";"}, {";i=10", ";i=10;i=10"}, {";i=10", ";j=1;i=10"},
		{"i=10", "i="}, {"i=10", "i=010"}, {"i=10", "i=00"}, {"i=10", "i=0x10"}, {"i=10", "i=+10"}, {"i=10", "i=-10"}, {"i=10", "i= 10"}, {"i=10", "i=1_0"}, {"i=10", "i=1g"}, {"i=10", "i=1é"}, {"i=10", "i=1\x00"}, {"i=10", "i=10\n"},
		{"i=10", "i=10000000000000000"}, {"i=10", "i=0000000000000010"}, {"i=10", "i=00000000000000010"}, {"i=10", "i=" + strings.Repeat("f", 17)}, {"i=10", "i=" + strings.Repeat("1", 1<<16)},
		{";b=fe", ";b="}, {";b=fe", ";b=fefe"}, {";b=fe", ";b=FE"}, {";b=fe", ";b=f;"}, {";b=", ";c="}, {";b=", "b="},
		{"m=a", "m=A"}, {"m=a", "m="}, {"m=a", "m=0a"}, {"m=a", "m=00"}, {"m=a", "m=10000000000000000"}, {";m=a", ""}, {";m=a;", ";"}, {";m=a", ";m=a;"}, {";m=a", ";m=a;m=a"},
		{"t=ff0", "t=FF0"}, {"t=ff0", "t="}, {"t=ff0", "t=0ff0"}, {"t=ff0", "t=00"}, {"t=ff0", "t=10000000000000000"}, {";t=ff0", ""},
		{"x=f", "x=0f"}, {"x=f", "x=F"}, {"x=f", "x=ff"}, {";x=", ";"}, {";x=ffffffffffffffff", ""}, {";x=ffffffffffffffff", ";x="}, {";x=ffffffffffffffff", ";x=00"}, {";x=ffffffffffffffff", ";x=10000000000000000"},
	} {
		bad := strings.Replace(s, c[0], c[1], 1)
		if bad == s {
			t.Fatalf("%q is not in %q", c[0], s)
		}
		notParsed(t, bad)
	}
	for _, bad := range []string{
		"", ";", "=", "s", "s=", noughts, ";;;;;", "s=;i=;b=;m=;t=;x=", strings.Repeat(";", 1<<20), strings.Repeat("0", 1<<20),
		s + ";", s + ";;", s + " ", s + "\n", s + "\x00", s + ";y=1", s + ";x=1", s + s, s + ";" + s, " " + s, "\n" + s, ";" + s, "\ufeff" + s, s[1:],
		strings.ToUpper(s), strings.ReplaceAll(s, ";", "; "), strings.ReplaceAll(s, "=", ": "), strings.ReplaceAll(s, ";", ""), strings.ReplaceAll(s, "=", ""), strings.ReplaceAll(s, ";", "="),
	} {
		notParsed(t, bad)
	}
}

// P19.2: the parts in another order, or without one of them.
func TestParseOfOtherOrders(t *testing.T) {
	parts := strings.Split(Show(some()), ";")
	for i := range parts {
		notParsed(t, strings.Join(slices.Delete(slices.Clone(parts), i, i+1), ";"))
		notParsed(t, strings.Join(slices.Insert(slices.Clone(parts), i, ""), ";"))
		notParsed(t, strings.Join(slices.Insert(slices.Clone(parts), i, parts[i]), ";"))
		notParsed(t, strings.Join(parts[:i], ";"))
		for j := range i {
			l := slices.Clone(parts)
			l[i], l[j] = l[j], l[i]
			notParsed(t, strings.Join(l, ";"))
		}
	}
}

// P19.2: of all texts near a Show, Parse takes just those that are one.
func TestParseOfNearTexts(t *testing.T) {
	taken := 0
	for _, c := range []Cursor{{}, some(), {N: 1, Mono: 0x10, Real: math.MaxUint64, Xor: 0xf00}} {
		for _, s := range near(Show(c), allBytes()) {
			c, ok := Parse(s)
			if ok != shown.MatchString(s) || ok && plainShow(c) != s || !ok && c != (Cursor{}) {
				t.Fatalf("Parse of %q: %v, %v", s, c, ok)
			}
			if ok {
				taken++
			}
		}
	}
	if taken < 3*64*16 {
		t.Errorf("only %d were taken", taken)
	}
}

// P19.2: of texts with two bytes turned, likewise.
func TestParseOfTwiceNearTexts(t *testing.T) {
	bytes := []byte("0;=sg ")
	for _, s := range near("s="+noughts+";i=0;b="+noughts+";m=10;t=0;x=0", bytes) {
		if len(s) < 60 {
			continue
		}
		for _, s := range near(s, bytes[:2]) {
			if c, ok := Parse(s); ok != shown.MatchString(s) || ok && plainShow(c) != s || !ok && c != (Cursor{}) {
				t.Fatalf("Parse of %q: %v, %v", s, c, ok)
			}
		}
	}
}
