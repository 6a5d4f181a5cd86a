package digest

import (
	"math/bits"

	"chartroom/api"
)

// maxElements is the number of elements up to which Climb accepts a list.
const maxElements = 1 << 40

// split returns how many of n elements, at least 2, belong to the first part: the greatest power of 2 less than n.
func split(n int) int {
	return 1 << (bits.Len(uint(n-1)) - 1)
}

// leaf returns the digest of a list of one element.
func leaf(d api.Digest) api.Digest {
	return Tagged("leaf", d[:])
}

// node returns the digest of a list with the digests of its two parts.
func node(first, others api.Digest) api.Digest {
	return tagged("node", first[:], others[:])
}

// pathOf returns the path of the element with an index that the list has.
func pathOf(l []api.Digest, at int) []api.Digest {
	if len(l) == 1 {
		return nil
	}
	k := split(len(l))
	if at < k {
		return append(pathOf(l[:k], at), Tree(l[k:]))
	}
	return append(pathOf(l[k:], at-k), Tree(l[:k]))
}

// pathLength returns the length of the path of the element with the index at in a list of n elements.
func pathLength(at, n int) (length int) {
	for ; n > 1; length++ {
		if k := split(n); at < k {
			n = k
		} else {
			at, n = at-k, n-k
		}
	}
	return length
}

// climb returns the digest to which a path of the right length leads.
func climb(d api.Digest, at, n int, path []api.Digest) api.Digest {
	if n == 1 {
		return leaf(d)
	}
	k, top := split(n), len(path)-1
	if at < k {
		return node(climb(d, at, k, path[:top]), path[top])
	}
	return node(path[top], climb(d, at-k, n-k, path[:top]))
}
