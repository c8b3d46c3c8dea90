package cursor

import (
	"strings"

	"diurnal/api"
)

// separator parts a text: all labels but the first begin with it.
const separator = ';'

// The labels: what stands ahead of each part of a cursor's text.
const (
	seqLabel    = "s="
	numberLabel = ";i="
	bootLabel   = ";b="
	monoLabel   = ";m="
	realLabel   = ";t="
	xorLabel    = ";x="
)

// Show answers c as a text.
func Show(c Cursor) string {
	return seqLabel + Hex(c.Seq) + numberLabel + short(c.N) + bootLabel + Hex(c.Boot) +
		monoLabel + short(c.Mono) + realLabel + short(c.Real) + xorLabel + short(c.Xor)
}

// Parse answers the cursor of which s is the Show, and false where s is none.
func Parse(s string) (Cursor, bool) {
	r := reader{rest: s, ok: true}
	var c Cursor
	c.Seq = r.id(seqLabel)
	c.N = r.number(numberLabel)
	c.Boot = r.id(bootLabel)
	c.Mono = r.number(monoLabel)
	c.Real = r.number(realLabel)
	c.Xor = r.number(xorLabel)
	if !r.ok || r.rest != "" {
		return Cursor{}, false
	}
	return c, true
}

// reader reads a text from the front. ok is false once a part was wrong.
type reader struct {
	rest string
	ok   bool
}

// part answers what is behind that label, up to the next one. It leaves the
// separator there, so that one behind the last part is seen.
func (r *reader) part(label string) string {
	rest, ok := strings.CutPrefix(r.rest, label)
	end := strings.IndexByte(rest, separator)
	if end < 0 {
		end = len(rest)
	}
	r.rest = rest[end:]
	r.ok = r.ok && ok
	return rest[:end]
}

// id answers the ID behind that label.
func (r *reader) id(label string) api.ID {
	id, ok := ID(r.part(label))
	r.ok = r.ok && ok
	return id
}

// number answers the number behind that label.
func (r *reader) number(label string) uint64 {
	v, ok := fromShort(r.part(label))
	r.ok = r.ok && ok
	return v
}
