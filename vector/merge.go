package vector

import (
	"cmp"
	"iter"

	"chartroom/api"
)

// A pair is the numbers of a device in two vectors.
type pair struct{ a, b int }

// pairs yields the devices of two valid vectors, in order, with their numbers in both. A device that only one of them has is yielded too, with the number 0 in the other one.
func pairs(a, b []api.Dot) iter.Seq2[int, pair] {
	return func(yield func(int, pair) bool) {
		restA, restB := a, b
		for len(restA) > 0 || len(restB) > 0 {
			device := min(first(restA), first(restB))
			var p pair
			p.a, restA = taken(restA, device)
			p.b, restB = taken(restB, device)
			if !yield(device, p) {
				return
			}
		}
	}
}

// first returns the first device of a valid vector, and a number greater than all devices if there is none.
func first(v []api.Dot) int {
	if len(v) == 0 {
		return api.MaxDevices
	}
	return v[0].Device
}

// taken returns the number of a device in a valid vector that has no device before it, and the dots after it.
func taken(v []api.Dot, device int) (seq int, rest []api.Dot) {
	if first(v) != device {
		return 0, v
	}
	return v[0].Seq, v[1:]
}

// A merger merges two vectors.
type merger struct {
	take func(a, b int) int // which of both numbers of a device the result has
}

func greater() merger {
	return merger{take: func(a, b int) int { return max(a, b) }}
}

func lesser() merger {
	return merger{take: func(a, b int) int { return min(a, b) }}
}

// merge returns the vector of what is taken of two valid vectors. A device of which 0 is taken has no dot in it.
func (m merger) merge(a, b []api.Dot) (v []api.Dot) {
	for device, p := range pairs(a, b) {
		if seq := m.take(p.a, p.b); seq > 0 {
			v = append(v, api.Dot{Device: device, Seq: seq})
		}
	}
	return v
}

// compare returns how all pairs of numbers of two valid vectors compare that are not equal, and 2 if they do not all compare in the same way.
func compare(a, b []api.Dot) (n int) {
	for _, p := range pairs(a, b) {
		c := cmp.Compare(p.a, p.b)
		if n*c < 0 {
			return 2
		}
		if c != 0 {
			n = c
		}
	}
	return n
}
