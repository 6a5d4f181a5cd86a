package shamir

import "chartroom/field"

// These functions leave out the errors of field: the numbers of valid shares are scalars, and so is what is calculated from them.

func plus(a, b int) int {
	c, _ := field.Add(a, b)
	return c
}

func minus(a, b int) int {
	c, _ := field.Sub(a, b)
	return c
}

func times(a, b int) int {
	c, _ := field.Mul(a, b)
	return c
}

// value returns the value at x of the polynomial with these coefficients.
func value(coefficients []int, x int) int {
	y, _ := field.Eval(coefficients, x)
	return y
}

// quotient divides by a scalar other than 0. A product of differences between different places is one, because Q is prime and greater than all places.
func quotient(a, b int) int {
	c, _ := field.Inv(b)
	return times(a, c)
}
