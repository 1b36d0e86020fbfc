package impl

import "math/bits"

const (
	MaxHash = 1000
	MaxInfo = 300

	maxExpand = 255
	blockSize = 64
)

var roundWords = [64]uint32{
	0x428a2f98, 0x71374491, 0xb5c0fbcf, 0xe9b5dba5, 0x3956c25b, 0x59f111f1, 0x923f82a4, 0xab1c5ed5,
	0xd807aa98, 0x12835b01, 0x243185be, 0x550c7dc3, 0x72be5d74, 0x80deb1fe, 0x9bdc06a7, 0xc19bf174,
	0xe49b69c1, 0xefbe4786, 0x0fc19dc6, 0x240ca1cc, 0x2de92c6f, 0x4a7484aa, 0x5cb0a9dc, 0x76f988da,
	0x983e5152, 0xa831c66d, 0xb00327c8, 0xbf597fc7, 0xc6e00bf3, 0xd5a79147, 0x06ca6351, 0x14292967,
	0x27b70a85, 0x2e1b2138, 0x4d2c6dfc, 0x53380d13, 0x650a7354, 0x766a0abb, 0x81c2c92e, 0x92722c85,
	0xa2bfe8a1, 0xa81a664b, 0xc24b8b70, 0xc76c51a3, 0xd192e819, 0xd6990624, 0xf40e3585, 0x106aa070,
	0x19a4c116, 0x1e376c08, 0x2748774c, 0x34b0bcb5, 0x391c0cb3, 0x4ed8aa4a, 0x5b9cca4f, 0x682e6ff3,
	0x748f82ee, 0x78a5636f, 0x84c87814, 0x8cc70208, 0x90befffa, 0xa4506ceb, 0xbef9a3f7, 0xc67178f2,
}

// A hasher is written to piece by piece, so that the limit of Sha256 on its
// argument does not apply to the longer texts inside a keyed hash.
// It is not written to after sum.
type hasher interface {
	write(s string)
	sum() string
}

type digest struct {
	state [8]uint32
	block [blockSize]byte
	used  int
	size  uint64
}

// A mac is the hash of HMAC: outer holds the key only, until inner is finished.
type mac struct {
	inner *digest
	outer *digest
}

func newDigest() *digest {
	return &digest{state: [8]uint32{
		0x6a09e667, 0xbb67ae85, 0x3c6ef372, 0xa54ff53a, 0x510e527f, 0x9b05688c, 0x1f83d9ab, 0x5be0cd19,
	}}
}

func (d *digest) write(s string) {
	for i := 0; i < len(s); i++ {
		d.block[d.used] = s[i]
		d.used++
		if d.used == blockSize {
			d.mix()
			d.used = 0
		}
	}
	d.size += uint64(len(s))
}

func (d *digest) sum() string {
	// The padding is written like data, so the size is read before it.
	size := bigEndian(8*d.size, 8)
	d.write("\x80")
	for d.used != blockSize-len(size) {
		d.write("\x00")
	}
	d.write(size)
	out := ""
	for _, word := range d.state {
		out += bigEndian(uint64(word), 4)
	}
	return out
}

func (d *digest) mix() {
	words := d.schedule()
	v := d.state
	for i, word := range words {
		choice := v[4]&v[5] ^ ^v[4]&v[6]
		majority := v[0]&v[1] ^ v[0]&v[2] ^ v[1]&v[2]
		first := v[7] + turned(v[4], 6, 11, 25) + choice + roundWords[i] + word
		second := turned(v[0], 2, 13, 22) + majority
		v = [8]uint32{first + second, v[0], v[1], v[2], v[3] + first, v[4], v[5], v[6]}
	}
	for i, x := range v {
		d.state[i] += x
	}
}

func (d *digest) schedule() [64]uint32 {
	var words [64]uint32
	for i, b := range d.block {
		words[i/4] = words[i/4]<<8 | uint32(b)
	}
	for i := 16; i < 64; i++ {
		old, late := words[i-15], words[i-2]
		small := bits.RotateLeft32(old, -7) ^ bits.RotateLeft32(old, -18) ^ old>>3
		large := bits.RotateLeft32(late, -17) ^ bits.RotateLeft32(late, -19) ^ late>>10
		words[i] = words[i-16] + small + words[i-7] + large
	}
	return words
}

func turned(x uint32, i int, j int, k int) uint32 {
	return bits.RotateLeft32(x, -i) ^ bits.RotateLeft32(x, -j) ^ bits.RotateLeft32(x, -k)
}

func newMac(key string) *mac {
	if len(key) > blockSize {
		key = hashOf(newDigest(), key)
	}
	m := &mac{inner: newDigest(), outer: newDigest()}
	m.inner.write(masked(key, 0x36))
	m.outer.write(masked(key, 0x5c))
	return m
}

func masked(key string, mask byte) string {
	out := make([]byte, blockSize)
	copy(out, key)
	for i := range out {
		out[i] ^= mask
	}
	return string(out)
}

func (m *mac) write(s string) {
	m.inner.write(s)
}

func (m *mac) sum() string {
	m.outer.write(m.inner.sum())
	return m.outer.sum()
}

func hashOf(h hasher, parts ...string) string {
	for _, part := range parts {
		h.write(part)
	}
	return h.sum()
}

func Sha256(s string) string {
	if len(s) > MaxHash {
		return ""
	}
	return hashOf(newDigest(), s)
}

func Hmac(key string, s string) string {
	if len(key) > MaxHash || len(s) > MaxHash {
		return ""
	}
	return hashOf(newMac(key), s)
}

func Extract(salt string, ikm string) string {
	if len(salt) > MaxInfo || len(ikm) > MaxInfo {
		return ""
	}
	return Hmac(salt, ikm)
}

func Expand(prk string, info string, n int64) string {
	if len(prk) > MaxInfo || len(info) > MaxInfo || n < 0 || n > maxExpand {
		return ""
	}
	out, last := "", ""
	for i := int64(1); int64(len(out)) < n; i++ {
		last = hashOf(newMac(prk), last, info, NumBytes(i, 1))
		out += last
	}
	return out[:n]
}

func Hkdf(salt string, ikm string, info string, n int64) string {
	// Extract alone would pass its "" on to Expand, which accepts it as a key.
	if len(salt) > MaxInfo || len(ikm) > MaxInfo {
		return ""
	}
	return Expand(Extract(salt, ikm), info, n)
}

func KeyFrom(seed int64) string {
	return Sha256("key" + bigEndian(uint64(seed), 8))
}
