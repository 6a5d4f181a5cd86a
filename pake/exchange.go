package pake

import (
	"chartroom/api"
	"chartroom/digest"
	"chartroom/group"
)

// shared returns the power of G whose exponent is the product of both secrets, if both sides have the same code. The side and the point of the other one are valid, so that nothing fails.
func shared(s api.Side, peer int) int {
	undo, _ := group.Inv(cover(roles()[other(s.Role)], s.Code))
	open, _ := group.Mul(peer, undo)
	z, _ := group.Exp(open, s.Secret)
	return z
}

// proofOf returns what shows that a side with this role has the key. It depends on the role, so that no side accepts its own proof when that is sent back.
func proofOf(k api.Key, number int) api.Digest {
	return digest.Tagged("proof", append(k[:], byte(number)))
}

// bytesOf returns the bytes of numbers, eight for each, the most significant one first.
func bytesOf(numbers ...int) []byte {
	b := make([]byte, 0, 8*len(numbers))
	for _, n := range numbers {
		for shift := 56; shift >= 0; shift -= 8 {
			b = append(b, byte(n>>shift))
		}
	}
	return b
}
