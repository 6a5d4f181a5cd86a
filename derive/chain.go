package derive

import (
	"iter"

	"chartroom/api"
)

// after yields the n keys after k in its chain.
func after(k api.Key, n int) iter.Seq[api.Key] {
	return func(yield func(api.Key) bool) {
		next := k
		for range n {
			next = Expand(next, "step", nil)
			if !yield(next) {
				return
			}
		}
	}
}
