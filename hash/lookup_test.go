package hash

import "testing"

// ofLengths holds Lookup of lists of 0, 1, 2, .. bytes against what it should
// be.
func ofLengths(t *testing.T, list func(int) []byte, want []uint64) {
	t.Helper()
	for n, w := range want {
		if got := Lookup(list(n)); got != w {
			t.Errorf("Lookup of %d bytes: %#x; want %#x", n, got, w)
		}
	}
}

// P2.1: of no bytes, and of texts.
func TestLookupOfTexts(t *testing.T) {
	for text, want := range map[string]uint64{
		"":                               0xdeadbeefdeadbeef,
		"Four score and seven years ago": 0x17770551ce7226e6,
		"PRIORITY=6":                     0x80f09f19808d26a3,
		"MESSAGE=hello":                  0x87ddeff2fd1bd06d,
		"_SYSTEMD_UNIT=cron.service":     0x91d7868efa2987a3,
	} {
		if got := Lookup([]byte(text)); got != want {
			t.Errorf("Lookup of %q: %#x; want %#x", text, got, want)
		}
	}
	if got := Lookup(nil); got != 0xdeadbeefdeadbeef {
		t.Errorf("Lookup of nil: %#x", got)
	}
}

// P2.1: each length about one, two and three times 12.
func TestLookupOfRows(t *testing.T) {
	ofLengths(t, row, []uint64{
		0xdeadbeefdeadbeef, 0x8ba9414b5559b6c4, 0xdf0d39c9b29a7b0c, 0x6b12f27795346f90,
		0xe4cf1d4213b4f97b, 0x1d4833ccea5bae4f, 0x5229ee9e7d4008d0, 0x589511d857b5bcaf,
		0xd4ccb93c71683417, 0xeca5147494d25656, 0x610fc1e354b5ea10, 0x2ca6817a032e5ed4,
		0x5e4aa5930cb6e7e9, 0xbc9d68166bff0f35, 0x9609e9d3749a42bf, 0x63a6e5034391a77d,
		0x5e84eafcc6284207, 0x8c3532cb6bb43f65, 0xd732003d59cdae44, 0x74abad212c0e5374,
		0x94b659b5b7a4dbc9, 0x8709c37bb5c589d2, 0x3190cf5d0aaeb476, 0xa5ff3c58311a6808,
		0x9c0add539f411002, 0x3a88224468519ca6, 0xa91dd5db753ec2a2, 0x761df2cd360473c3,
		0x9255ed6ed746a3b0, 0x9c75ff61dc09846c, 0x308ed0599d942a7a, 0xdfa1dc11eecffdb2,
		0x21362cfe1759d921, 0x0e62ec963907f025, 0xd265c4e32796f2c6, 0xe78281dae22c5bf7,
		0x653b9ba42c078b54, 0x12926a31b28b69dc, 0x31c1d4b1893f2130, 0xc81ceeaec06b25ec,
	})
}

// P2.1: bytes with the highest bit set are not meant as below 0.
func TestLookupOfWildBytes(t *testing.T) {
	ofLengths(t, wild, []uint64{
		0xdeadbeefdeadbeef, 0x9fc94dc3ee5f1cd9, 0x09e4350c8563d131, 0xc9afa233659c6dc7,
		0x1515528737264f52, 0x2182d3d08929593d, 0x574ccbda97f77444, 0x10a9302ede6ceeb7,
		0xc5e8a4833fa7530f, 0x19778da38e9158f2, 0xee13550601c62a6c, 0x55ab17508e25c1f1,
		0xb09670061be57d86, 0xb82e99c3e3d7f553, 0xc9e3986accbc56e2, 0x666c08d74a0cfe17,
		0x67cbde1af8ad956a, 0xa050b1e425808718, 0x81cd1cf3e149b892, 0x52999dcbccf4c425,
		0xf9c06d555c728a93, 0x7e114ba044902156, 0x51b0215c43d08b99, 0x48b642ae21cbf2b9,
		0x5641c1bba3d3c1db, 0xff89cbada1448e28, 0x12217a4285602c6e, 0x673530e6e0991cc9,
		0xee56738425902f80, 0x01f3f4532c66ea23, 0xa86798f239c9d86c, 0x766cb569b8ad99c2,
		0xdb3609bfd8c4927b, 0xdcb2278d446bd1fc, 0x65a238ff16080b3c, 0xe0be4769719cabe5,
		0x13098c66cbbc0a03, 0xd775db863c207a5c, 0x9c4fbdbcd53c3bd4, 0x10654305d2edf21a,
	})
}

// P2.1: missing bytes are 0, but the length counts: zeros are told apart by
// how many they are.
func TestLookupOfZeros(t *testing.T) {
	ofLengths(t, func(n int) []byte { return make([]byte, n) }, []uint64{
		0xdeadbeefdeadbeef, 0x8ba9414b5559b6c4, 0x62cd61b311fcf0e9, 0x6bd0060f448ca6cb,
		0x049396b8af515d17, 0xd9a91087b02219d2, 0x23700e536d2c9113, 0x7dc54d655a9dd9b1,
		0x58c184bf43f8ce9e, 0x0ee58a0db71f08f2, 0xc343af0b37fb88ff, 0x6e0964a94fa5a2d3,
		0x1b68e55739dae95c, 0x4310ac3e32039ee3, 0x35d7c9b295147888, 0x854c7230d413728a,
		0xbaf9078c7892e727, 0x295835ff6ff647ce, 0x3428e3f50bf36d00, 0x9100686ebca52985,
		0x690fad701d3da586, 0x584edb8da7924c94, 0x5bb6c847f4a7c539, 0x05eab01dc16b316c,
		0x3bc1a6269a5632d1, 0xa5b44bbd15123c51, 0xdef73f721dd8bb68, 0x8d76c45ada9f24fb,
	})
}

// P2.1: the length counts with more than its lowest byte.
func TestLookupOfLongLists(t *testing.T) {
	for n, want := range map[int]uint64{
		48:     0xad8cc6bc6dafc937,
		49:     0xf0300dff4b9a8e98,
		255:    0x32a561bc1e62f381,
		256:    0x63de913e121fbc46,
		257:    0x5d3da9fba84dc310,
		4096:   0x5a349d028dec9660,
		4097:   0x1f0d39f9e24b9ea5,
		65535:  0xb6699b43ca54e625,
		65536:  0x3f47ec71b5e821bf,
		65537:  0xe557b0b12c683999,
		100000: 0x283cfe194c9c9442,
	} {
		if got := Lookup(wild(n)); got != want {
			t.Errorf("Lookup of %d bytes: %#x; want %#x", n, got, want)
		}
	}
}

// P2.1: each bit of each byte counts.
func TestLookupOfOneBit(t *testing.T) {
	for _, n := range []int{1, 4, 11, 12, 13, 24, 25} {
		seen := map[uint64]bool{Lookup(make([]byte, n)): true}
		for bit := range 8 * n {
			b := make([]byte, n)
			b[bit/8] = 1 << (bit % 8)
			seen[Lookup(b)] = true
		}
		if len(seen) != 8*n+1 {
			t.Errorf("Lookup of %d bytes with one bit: %d hashes", n, len(seen))
		}
	}
}
