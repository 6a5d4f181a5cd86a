package group

import (
	"iter"
	"math/bits"

	"chartroom/api"
)

// isElement tells whether a number is a square modulo P: these are the numbers whose power with the exponent Q is 1, because P is 2 Q + 1 and prime.
func isElement(a int) bool {
	return a >= 1 && a < api.P && power(a, api.Q) == 1
}

// product returns the product of two numbers from 0 to P - 1 modulo P. It has up to 124 bits before it is reduced.
func product(a, b int) int {
	high, low := bits.Mul64(uint64(a), uint64(b))
	return int(bits.Rem64(high, low, api.P))
}

// inverse returns the inverse of an element. Because there are Q elements, a product of Q factors a is 1.
func inverse(a int) int {
	return power(a, api.Q-1)
}

// power returns the product of k factors a modulo P, for a from 0 to P - 1 and k at least 0.
func power(a, k int) int {
	c := 1
	for one := range binary(k) {
		if one {
			c = product(c, a)
		}
		a = product(a, a)
	}
	return c
}

// binary yields which of the bits of k are 1, from the least significant one to the last that is 1.
func binary(k int) iter.Seq[bool] {
	return func(yield func(bool) bool) {
		for ; k > 0; k >>= 1 {
			if !yield(k&1 == 1) {
				return
			}
		}
	}
}

// remainder returns the remainder of the number of a digest modulo m. The number has 256 bits, so it is reduced after each byte.
func remainder(d api.Digest, m uint64) int {
	rest := uint64(0)
	fold := func(b byte) {
		rest = bits.Rem64(rest>>56, rest<<8|uint64(b), m)
	}
	for _, b := range d {
		fold(b)
	}
	return int(rest)
}
