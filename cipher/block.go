package cipher

import (
	"math/bits"

	"chartroom/api"
)

const (
	wordSize   = 4
	blockWords = 16
	blockSize  = blockWords * wordSize
	rounds     = 10 // each of them mixes the columns and the diagonals
	maxCounter = 1<<32 - 1
)

// numbers are the numbers of a block, at first those of which it is calculated.
type numbers [blockWords]uint32

// start returns the numbers s.
func start(k api.Key, n api.Nonce, counter uint32) numbers {
	s := numbers{0x61707865, 0x3320646e, 0x79622d32, 0x6b206574}
	for i := range len(k) / wordSize {
		s[4+i] = word(k[wordSize*i:])
	}
	s[12] = counter
	for i := range len(n) / wordSize {
		s[13+i] = word(n[wordSize*i:])
	}
	return s
}

// block returns the block of the numbers s. They are added in the end, because without them the rounds could be undone.
func (s numbers) block() (b [blockSize]byte) {
	v := s
	mix := v.mix
	for range rounds {
		for i := range 4 {
			mix(i, 4+i, 8+i, 12+i)
		}
		for i := range 4 {
			mix(i, 4+(i+1)%4, 8+(i+2)%4, 12+(i+3)%4)
		}
	}
	for i := range b {
		at := i / wordSize
		b[i] = byte((v[at] + s[at]) >> (8 * (i % wordSize)))
	}
	return b
}

// mix mixes the numbers with the indices a, b, c and d.
func (v *numbers) mix(a, b, c, d int) {
	v[a] += v[b]
	v[d] = bits.RotateLeft32(v[d]^v[a], 16)
	v[c] += v[d]
	v[b] = bits.RotateLeft32(v[b]^v[c], 12)
	v[a] += v[b]
	v[d] = bits.RotateLeft32(v[d]^v[a], 8)
	v[c] += v[d]
	v[b] = bits.RotateLeft32(v[b]^v[c], 7)
}

// word returns the word that b begins with.
func word(b []byte) uint32 {
	return uint32(b[0]) | uint32(b[1])<<8 | uint32(b[2])<<16 | uint32(b[3])<<24
}

// stream combines bytes with the blocks from the counter 1 on.
func stream(k api.Key, n api.Nonce, b []byte) []byte {
	c := make([]byte, len(b))
	var block [blockSize]byte
	for i := range b {
		if i%blockSize == 0 {
			block = start(k, n, uint32(1+i/blockSize)).block()
		}
		c[i] = b[i] ^ block[i%blockSize]
	}
	return c
}
