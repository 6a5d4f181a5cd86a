package shamir

import (
	"iter"

	"chartroom/api"
	"chartroom/derive"
)

// coefficients returns those of the polynomial for a secret. All but the secret come from the seed, so that the same arguments lead to the same shares.
func coefficients(secret, need int, seed api.Key) []int {
	c := []int{secret}
	for i := 1; i < need; i++ {
		c = append(c, derive.Scalar(derive.Expand(seed, "share", []int{i}), "share"))
	}
	return c
}

// basis is the polynomial that is 0 at the places of some shares, and 1 at a place of its own.
type basis struct {
	zeros []api.Share
	one   int
}

// at returns the value at a place.
func (b basis) at(x int) int {
	return quotient(b.product(x), b.product(b.one))
}

// product returns the product of the differences between a place and those of the zeros.
func (b basis) product(x int) int {
	c := 1
	for _, s := range b.zeros {
		c = times(c, minus(x, s.At))
	}
	return c
}

// bases yields the basis polynomials of shares, each one with the share at whose place it is 1.
func bases(l []api.Share) iter.Seq2[api.Share, basis] {
	return func(yield func(api.Share, basis) bool) {
		for _, own := range l {
			others := selected(l, func(s api.Share) bool { return s.At != own.At })
			if !yield(own, basis{zeros: others, one: own.At}) {
				return
			}
		}
	}
}

// through returns the value at a place of the polynomial through valid shares.
func through(l []api.Share, x int) (y int) {
	for s, b := range bases(l) {
		y = plus(y, times(s.Y, b.at(x)))
	}
	return y
}

// selected returns those elements of a list that are to be kept.
func selected[T any](l []T, keep func(T) bool) (kept []T) {
	for _, x := range l {
		if keep(x) {
			kept = append(kept, x)
		}
	}
	return kept
}
