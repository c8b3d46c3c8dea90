package hash

import (
	"bytes"
	"testing"

	"diurnal/api"
)

// P2.2: the chapter's example.
func TestSipOfTheExample(t *testing.T) {
	if got := Sip(rowKey(), row(15)); got != 0xa129ca6149be45e5 {
		t.Errorf("Sip of the chapter's example: %#x", got)
	}
}

// P2.2: each length about each multiple of eight up to 64, the table that came
// with the hash.
func TestSipOfRows(t *testing.T) {
	for n, want := range []uint64{
		0x726fdb47dd0e0e31, 0x74f839c593dc67fd, 0x0d6c8009d9a94f5a, 0x85676696d7fb7e2d,
		0xcf2794e0277187b7, 0x18765564cd99a68d, 0xcbc9466e58fee3ce, 0xab0200f58b01d137,
		0x93f5f5799a932462, 0x9e0082df0ba9e4b0, 0x7a5dbbc594ddb9f3, 0xf4b32f46226bada7,
		0x751e8fbc860ee5fb, 0x14ea5627c0843d90, 0xf723ca908e7af2ee, 0xa129ca6149be45e5,
		0x3f2acc7f57c29bdb, 0x699ae9f52cbe4794, 0x4bc1b3f0968dd39c, 0xbb6dc91da77961bd,
		0xbed65cf21aa2ee98, 0xd0f2cbb02e3b67c7, 0x93536795e3a33e88, 0xa80c038ccd5ccec8,
		0xb8ad50c6f649af94, 0xbce192de8a85b8ea, 0x17d835b85bbb15f3, 0x2f2e6163076bcfad,
		0xde4daaaca71dc9a5, 0xa6a2506687956571, 0xad87a3535c49ef28, 0x32d892fad841c342,
		0x7127512f72f27cce, 0xa7f32346f95978e3, 0x12e0b01abb051238, 0x15e034d40fa197ae,
		0x314dffbe0815a3b4, 0x027990f029623981, 0xcadcd4e59ef40c4d, 0x9abfd8766a33735c,
		0x0e3ea96b5304a7d0, 0xad0c42d6fc585992, 0x187306c89bc215a9, 0xd4a60abcf3792b95,
		0xf935451de4f21df2, 0xa9538f0419755787, 0xdb9acddff56ca510, 0xd06c98cd5c0975eb,
		0xe612a3cb9ecba951, 0xc766e62cfcadaf96, 0xee64435a9752fe72, 0xa192d576b245165a,
		0x0a8787bf8ecb74b2, 0x81b3e73d20b49b6f, 0x7fa8220ba3b2ecea, 0x245731c13ca42499,
		0xb78dbfaf3a8d83bd, 0xea1ad565322a1a0b, 0x60e61c23a3795013, 0x6606d7e446282b93,
		0x6ca4ecb15c5f91e1, 0x9f626da15c9625f3, 0xe51b38608ef25f57, 0x958a324ceb064572,
	} {
		if got := Sip(rowKey(), row(n)); got != want {
			t.Errorf("Sip of %d bytes: %#x; want %#x", n, got, want)
		}
	}
}

// P2.2: of a length of more than 255, the lowest byte stands in the last
// number.
func TestSipOfLongLists(t *testing.T) {
	for n, want := range map[int]uint64{
		254:    0xe2b0cc65f5582542,
		255:    0x5b926a9552b71bb0,
		256:    0xfa945cf1bc6fb986,
		257:    0xfa6107c02520214a,
		258:    0xb94485900b7060f4,
		263:    0x6e9fd2e69f89e186,
		264:    0x838b8bbcf7fb7ead,
		265:    0xc7613a9e366c999d,
		511:    0x9c017929ed42d65e,
		512:    0x49418cdd94084407,
		513:    0xf46c1ebd7d1c14fa,
		65535:  0xbaf585669591e9f8,
		65536:  0x2f538d2a4d8d564f,
		65537:  0xf5500c6a8522749e,
		100000: 0x937926b50df71f76,
	} {
		if got := Sip(wildKey(), wild(n)); got != want {
			t.Errorf("Sip of %d bytes: %#x; want %#x", n, got, want)
		}
	}
}

// P2.2: the key's two numbers have the lowest byte first; keys of zeros and of
// other bytes.
func TestSipOfKeys(t *testing.T) {
	for _, c := range []struct {
		key  api.ID
		want [4]uint64
	}{
		{api.ID{}, [4]uint64{0x1e924b9d737700d7, 0x2d04d90748f1f088, 0x2a49851d2c417676, 0x5ef1f2c508ab790b}},
		{api.ID(bytes.Repeat([]byte{0xff}, 16)), [4]uint64{0x35dd279ee86ce565, 0xbb264f61e26e29f2, 0x7ceab6cd0a6a2e12, 0xc181a87bce72ff45}},
		{api.ID{0: 0x01}, [4]uint64{0x54e761ac4b1ca3de, 0x02ddb9c46ee5022c, 0x4ede0bc0e3d0deaf, 0x0bcaf6b77e6f7f83}},
		{api.ID{7: 0x80}, [4]uint64{0x620f794693c9a5b9, 0xaa8f18948a73ec8c, 0x6948e8888d8b48e2, 0x709cbf5690b62bcd}},
		{api.ID{8: 0x01}, [4]uint64{0xc4235c5247d6521c, 0xf6d93d41c1cf94d6, 0x3eedd7916210b85b, 0x33860fd96fb18d13}},
		{api.ID{15: 0x80}, [4]uint64{0x87f7600ac7c98ce8, 0x6aa30beaeaf467c9, 0xc55e7dea0006ca27, 0xa820f7d7242b9a9c}},
		{wildKey(), [4]uint64{0x27595c439c852aa2, 0xf30d679cd3f568b6, 0x6add42b247f1102b, 0x9d12f3dee5afea6e}},
	} {
		for i, n := range []int{0, 7, 8, 20} {
			if got := Sip(c.key, wild(n)); got != c.want[i] {
				t.Errorf("Sip by %x of %d bytes: %#x; want %#x", c.key, n, got, c.want[i])
			}
		}
	}
}

// P2.2: each bit of the key counts, and each bit of each byte.
func TestSipOfOneBit(t *testing.T) {
	for _, n := range []int{0, 1, 7, 8, 9, 16} {
		seen := map[uint64]bool{Sip(api.ID{}, make([]byte, n)): true}
		for bit := range 8 * n {
			b := make([]byte, n)
			b[bit/8] = 1 << (bit % 8)
			seen[Sip(api.ID{}, b)] = true
		}
		for bit := range 128 {
			var key api.ID
			key[bit/8] = 1 << (bit % 8)
			seen[Sip(key, make([]byte, n))] = true
		}
		if len(seen) != 8*n+128+1 {
			t.Errorf("Sip of %d bytes with one bit: %d hashes", n, len(seen))
		}
	}
}
