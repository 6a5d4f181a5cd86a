package proxy

import (
	"chartroom/api"
	"chartroom/digest"
	"chartroom/field"
	"chartroom/group"
)

// elementSize is the number of bytes of an element.
const elementSize = 8

// A direction is one of both ways through a lock: locking leads from m and the key to B and Pad, and opening leads back.
type direction struct {
	factor func() int             // by what the given element is multiplied to make the other one
	hidden func(from, to int) int // which of both elements is m
}

// locking returns the direction of who has the exponent r: B is the product of m and the power r of G.
func locking(r int) direction {
	return direction{
		factor: func() int { return must(group.Base(r)) },
		hidden: func(m, _ int) int { return m },
	}
}

// opening returns the direction of who has the private key, which is taken out of A by its inverse: what remains is the power r of G.
func opening(private, a int) direction {
	return direction{
		factor: func() int {
			z := must(group.Exp(a, must(field.Inv(private))))
			return must(group.Inv(z))
		},
		hidden: func(_, m int) int { return m },
	}
}

// pass returns what an element and a key, or a pad, become.
func (d direction) pass(from int, k api.Key) (to int, x api.Key) {
	to = must(group.Mul(from, d.factor()))
	return to, combined(k, mask(d.hidden(from, to)))
}

// mask returns what hides a key, and what only who knows the element can calculate.
func mask(m int) api.Key {
	var b [elementSize]byte
	for i := range b {
		b[i] = byte(m >> (8 * (elementSize - 1 - i)))
	}
	return api.Key(digest.Tagged("pad", b[:]))
}

// combined returns the exclusive or of the bytes of two keys. Combining with the same key again undoes it.
func combined(a, b api.Key) (c api.Key) {
	for i := range c {
		c[i] = a[i] ^ b[i]
	}
	return c
}
