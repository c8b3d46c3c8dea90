package hash

import (
	"math/bits"

	"diurnal/le"
)

// block is how many bytes are added ahead of one mixing.
const block = 12

// trio is what Lookup reckons with; all of it goes round at 2^32.
type trio struct {
	x, y, z uint32
}

// Lookup answers Jenkins's lookup3 of b (hashlittle2, begun with 0, 0).
func Lookup(b []byte) uint64 {
	start := 0xdeadbeef + uint32(len(b))
	t := trio{start, start, start}
	if len(b) == 0 {
		return t.answer()
	}
	// The last block, a whole one too, is not mixed: finished is its mixing.
	for len(b) > block {
		t = t.plus(b[:block]).mixed()
		b = b[block:]
	}
	return t.plus(b).finished().answer()
}

// plus answers t with at most 12 bytes added, missing ones being 0.
func (t trio) plus(b []byte) trio {
	var whole [block]byte
	copy(whole[:], b)
	x, _ := le.Get(whole[:], 0, 4)
	y, _ := le.Get(whole[:], 4, 4)
	z, _ := le.Get(whole[:], 8, 4)
	return trio{t.x + uint32(x), t.y + uint32(y), t.z + uint32(z)}
}

func (t trio) mixed() trio {
	x, y, z := t.x, t.y, t.z
	x, z = stirred(x, z, 4), z+y
	y, x = stirred(y, x, 6), x+z
	z, y = stirred(z, y, 8), y+x
	x, z = stirred(x, z, 16), z+y
	y, x = stirred(y, x, 19), x+z
	z, y = stirred(z, y, 4), y+x
	return trio{x, y, z}
}

// stirred answers a - b, and that xor b turned.
func stirred(a, b uint32, by int) uint32 {
	return (a - b) ^ bits.RotateLeft32(b, by)
}

func (t trio) finished() trio {
	x, y, z := t.x, t.y, t.z
	z = settled(z, y, 14)
	x = settled(x, z, 11)
	y = settled(y, x, 25)
	z = settled(z, y, 16)
	x = settled(x, z, 4)
	y = settled(y, x, 14)
	z = settled(z, y, 24)
	return trio{x, y, z}
}

// settled answers a xor b, and from that b turned taken away.
func settled(a, b uint32, by int) uint32 {
	return (a ^ b) - bits.RotateLeft32(b, by)
}

func (t trio) answer() uint64 {
	return uint64(t.z)<<32 | uint64(t.y)
}
