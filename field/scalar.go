package field

import (
	"iter"
	"math/bits"

	"chartroom/api"
)

// check returns ErrArg unless all numbers are scalars.
func check(numbers ...int) api.Errno {
	for _, a := range numbers {
		if a < 0 || a >= api.Q {
			return api.ErrArg
		}
	}
	return api.OK
}

// sum returns the sum of two scalars. It cannot overflow before it is reduced, because Q is less than 2^61.
func sum(a, b int) int {
	return (a + b) % api.Q
}

// difference returns the difference of two scalars. Q is added because Go's remainder of a negative number is negative.
func difference(a, b int) int {
	return (a - b + api.Q) % api.Q
}

// product returns the product of two scalars. The division cannot overflow, because the upper half of the 128 bits is less than Q.
func product(a, b int) int {
	high, low := bits.Mul64(uint64(a), uint64(b))
	_, rest := bits.Div64(high, low, api.Q)
	return int(rest)
}

// inverse returns the inverse of a scalar other than 0. Because Q is prime, a product of Q - 1 factors a is 1.
func inverse(a int) int {
	return power(a, api.Q-2)
}

// power returns the product of n factors a, for n at least 0.
func power(a, n int) int {
	c := 1
	multiply := func(factor int) { c = product(c, factor) }
	for one := range binary(n) {
		multiply(c)
		if one {
			multiply(a)
		}
	}
	return c
}

// binary yields which of the bits of n, from the most significant one on, are 1.
func binary(n int) iter.Seq[bool] {
	return func(yield func(bool) bool) {
		for i := bits.Len(uint(n)) - 1; i >= 0; i-- {
			if !yield(n>>i&1 == 1) {
				return
			}
		}
	}
}

// value returns the value of a polynomial of scalars at a scalar, by one product for each coefficient.
func value(coefficients []int, x int) (y int) {
	for i := len(coefficients) - 1; i >= 0; i-- {
		y = sum(product(y, x), coefficients[i])
	}
	return y
}
