package cipher

import (
	"slices"

	"chartroom/api"
	"chartroom/digest"
)

const tagSize = 16

// tag returns the tag of the bytes x. The length of the head stands before it, so that no byte of the head can pass for one of x.
func tag(k api.Key, n api.Nonce, head, x []byte) []byte {
	size := bytesOf(len(head))
	d := digest.Tagged("tag", slices.Concat(k[:], n[:], size[:], head, x))
	return d[:tagSize]
}

// bytesOf returns the bytes of a number, the most significant one first.
func bytesOf(n int) (b [8]byte) {
	for i := range b {
		b[i] = byte(n >> (56 - 8*i))
	}
	return b
}
