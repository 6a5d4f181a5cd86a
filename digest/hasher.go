package digest

import (
	"math/bits"

	"chartroom/api"
)

const (
	wordSize   = 4
	blockWords = 16
	blockSize  = blockWords * wordSize
	rounds     = 64
	sizeSize   = 8 // the length of the number of bits at the end of the padded bytes
)

// roundNumbers are the numbers K.
var roundNumbers = [rounds]uint32{
	0x428a2f98, 0x71374491, 0xb5c0fbcf, 0xe9b5dba5, 0x3956c25b, 0x59f111f1, 0x923f82a4, 0xab1c5ed5,
	0xd807aa98, 0x12835b01, 0x243185be, 0x550c7dc3, 0x72be5d74, 0x80deb1fe, 0x9bdc06a7, 0xc19bf174,
	0xe49b69c1, 0xefbe4786, 0x0fc19dc6, 0x240ca1cc, 0x2de92c6f, 0x4a7484aa, 0x5cb0a9dc, 0x76f988da,
	0x983e5152, 0xa831c66d, 0xb00327c8, 0xbf597fc7, 0xc6e00bf3, 0xd5a79147, 0x06ca6351, 0x14292967,
	0x27b70a85, 0x2e1b2138, 0x4d2c6dfc, 0x53380d13, 0x650a7354, 0x766a0abb, 0x81c2c92e, 0x92722c85,
	0xa2bfe8a1, 0xa81a664b, 0xc24b8b70, 0xc76c51a3, 0xd192e819, 0xd6990624, 0xf40e3585, 0x106aa070,
	0x19a4c116, 0x1e376c08, 0x2748774c, 0x34b0bcb5, 0x391c0cb3, 0x4ed8aa4a, 0x5b9cca4f, 0x682e6ff3,
	0x748f82ee, 0x78a5636f, 0x84c87814, 0x8cc70208, 0x90befffa, 0xa4506ceb, 0xbef9a3f7, 0xc67178f2,
}

// start is the state in the beginning.
var start = [8]uint32{0x6a09e667, 0xbb67ae85, 0x3c6ef372, 0xa54ff53a, 0x510e527f, 0x9b05688c, 0x1f83d9ab, 0x5be0cd19}

// hasher hashes bytes that come in parts, so that nobody has to join them first.
type hasher struct {
	state [8]uint32
	part  [blockSize]byte // begins with the bytes that do not fill a block yet
	used  int             // how many they are
	size  uint64          // how many bytes came so far
}

// newHasher returns a hasher to which no bytes came yet.
func newHasher() hasher {
	return hasher{state: start}
}

// tagged returns the hash of parts, one after the other, under a tag.
func tagged(tag string, parts ...[]byte) api.Digest {
	t := Sum([]byte(tag))
	h := newHasher()
	h.write(t[:])
	for _, b := range parts {
		h.write(b)
	}
	return h.end()
}

// write goes on with b. Whole blocks are absorbed where they are.
func (h *hasher) write(b []byte) {
	absorb := h.absorb
	h.size += uint64(len(b))
	if h.used > 0 {
		n := copy(h.part[h.used:], b)
		h.used, b = h.used+n, b[n:]
		if h.used < blockSize {
			return
		}
		absorb(words(h.part[:]))
	}
	for ; len(b) >= blockSize; b = b[blockSize:] {
		absorb(words(b))
	}
	h.used = copy(h.part[:], b)
}

// end writes what follows the bytes when they are padded, and returns the hash.
func (h *hasher) end() (d api.Digest) {
	padding := [blockSize + sizeSize]byte{0x80}
	n := blockSize - (h.used+sizeSize)%blockSize
	size := 8 * h.size
	for i := range sizeSize {
		padding[n+i] = byte(size >> (8 * (sizeSize - 1 - i)))
	}
	h.write(padding[:n+sizeSize])
	for i := range d {
		d[i] = byte(h.state[i/wordSize] >> (8 * (wordSize - 1 - i%wordSize)))
	}
	return d
}

// absorb changes the state by the words of a block. The eight numbers are variables, because an array would not be kept in registers.
func (h *hasher) absorb(block [blockWords]uint32) {
	w := schedule(block)
	s := &h.state
	a, b, c, d, e, f, g, last := s[0], s[1], s[2], s[3], s[4], s[5], s[6], s[7]
	for t := range rounds {
		p := last + (ror(e, 6) ^ ror(e, 11) ^ ror(e, 25)) + (e&f ^ ^e&g) + roundNumbers[t] + w[t]
		q := (ror(a, 2) ^ ror(a, 13) ^ ror(a, 22)) + (a&b ^ a&c ^ b&c)
		last, g, f, e, d, c, b, a = g, f, e, d+p, c, b, a, p+q
	}
	for i, v := range [...]uint32{a, b, c, d, e, f, g, last} {
		s[i] += v
	}
}

// words returns the words of the block that b begins with.
func words(b []byte) (w [blockWords]uint32) {
	for t := range blockWords {
		x := b[wordSize*t : wordSize*(t+1)]
		w[t] = uint32(x[0])<<24 | uint32(x[1])<<16 | uint32(x[2])<<8 | uint32(x[3])
	}
	return w
}

// schedule returns the words w that the words of a block lead to.
func schedule(block [blockWords]uint32) (w [rounds]uint32) {
	copy(w[:], block[:])
	for t := blockWords; t < rounds; t++ {
		x, y := w[t-15], w[t-2]
		w[t] = w[t-16] + (ror(x, 7) ^ ror(x, 18) ^ x>>3) + w[t-7] + (ror(y, 17) ^ ror(y, 19) ^ y>>10)
	}
	return w
}

// ror rotates v by n bits to the right.
func ror(v uint32, n int) uint32 {
	return bits.RotateLeft32(v, -n)
}
