package cursor

import (
	"strconv"
	"strings"

	"diurnal/api"
)

// digits are the hexadecimal ones, by what they stand for.
const digits = "0123456789abcdef"

const (
	base = 16
	// width is how many digits the greatest number has.
	width = 16
)

// Hex answers id in 32 digits, a byte's higher half first.
func Hex(id api.ID) string {
	out := make([]byte, 0, 2*len(id))
	for _, c := range id {
		out = append(out, digits[c>>4], digits[c&15])
	}
	return string(out)
}

// ID answers the ID of which s is the Hex, and false where s is none.
func ID(s string) (api.ID, bool) {
	var id api.ID
	if len(s) != 2*len(id) {
		return api.ID{}, false
	}
	for i := range id {
		v, ok := value(s[2*i : 2*i+2])
		if !ok {
			return api.ID{}, false
		}
		id[i] = byte(v)
	}
	return id, true
}

// Fixed answers v in 16 digits, the highest first.
func Fixed(v uint64) string {
	s := short(v)
	return strings.Repeat("0", width-len(s)) + s
}

// Number answers the number of which s is the Fixed, and false where s is none.
func Number(s string) (uint64, bool) {
	if len(s) != width {
		return 0, false
	}
	return value(s)
}

// short answers v in as few digits as it has: 0 as 0.
func short(v uint64) string {
	return strconv.FormatUint(v, base)
}

// fromShort answers the number of which s is the short, and false where s is none.
func fromShort(s string) (uint64, bool) {
	if s == "" || len(s) > width || s[0] == '0' && s != "0" {
		return 0, false
	}
	return value(s)
}

// value answers the number whose digits s has, and false where one is none. s
// has width of them at most.
func value(s string) (uint64, bool) {
	v := uint64(0)
	for i := range len(s) {
		d := strings.IndexByte(digits, s[i])
		if d < 0 {
			return 0, false
		}
		v = v*base + uint64(d)
	}
	return v, true
}
