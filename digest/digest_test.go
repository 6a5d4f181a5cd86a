package digest

import (
	"encoding/hex"
	"math"
	"slices"
	"testing"

	"chartroom/api"
)

// Digests that were calculated with another program.
const (
	zeroLeaf  = "ee8dbaec322ea4b24ac98d712169b6182dd9315fcfc5a706e63f15acd6e3d1dc"
	zeroChain = "76c3e62f98d7d9fbfa33894bb6781d543cb4633e84832af429ce901c89c8c4f7"
)

// row returns n elements: the first has 32 bytes 1, the second 32 bytes 2, and so on.
func row(n int) (l []api.Digest) {
	for i := range n {
		l = append(l, filled(byte(i+1)))
	}
	return l
}

func filled(c byte) (d api.Digest) {
	for i := range d {
		d[i] = c
	}
	return d
}

func TestTreeKnown(t *testing.T) {
	for n, want := range map[int]string{
		0:  "b11d82bc8e40de229d00122b79ae62222e9c8ce106ec4568c71ba71f1289ee2b",
		1:  "e8f9bef6128a8ba93b2050e92f9e9872ba6ffc9609f789c3febd0a553dc61435",
		2:  "0b2327a101212f618027c5942bec88644665d81d87167d19b019443457f5dea1",
		3:  "eff571e3a988c33f3e1d75b40f6324f680600468fcdbb1fe19c4b2e2c57248ef",
		4:  "e4f1e53c786d8b3774b1bc5402f3a44cbd7f94209f0b9fe53d00d7e9cb5902f9",
		5:  "a1e11b94ba6aa36b5ace629d8f4d47a3c59dd5f8c4bd79822617e0bce3b54114",
		7:  "b19fc14e3f3b45f3b31032043a177660ed9c24dacc3c978580efcab9287fdde9",
		8:  "32c08106c4489d0ce910d075890dcf22e86869d38d866fa072e343e77fca87da",
		13: "a7990cef0c862b4ea742b79b15731c33addf46534ee2e9038cd3a19d13e6b340",
	} {
		if d := Tree(row(n)); hex.EncodeToString(d[:]) != want {
			t.Errorf("%d: %x", n, d)
		}
	}
}

func tagLeaf(d api.Digest) api.Digest { return Tagged("leaf", d[:]) }

func tagNode(a, b api.Digest) api.Digest { return Tagged("node", slices.Concat(a[:], b[:])) }

// levels returns the digests of a tree from the leaves upwards: pairs become nodes, and a digest without a partner goes up as it is. The parts of the chapter lead to the same tree.
func levels(l []api.Digest) (all [][]api.Digest) {
	var level []api.Digest
	for _, d := range l {
		level = append(level, tagLeaf(d))
	}
	for ; len(level) > 1; level = above(level) {
		all = append(all, level)
	}
	return append(all, level)
}

func above(level []api.Digest) (next []api.Digest) {
	for i := 0; i < len(level); i += 2 {
		if i+1 == len(level) {
			next = append(next, level[i])
		} else {
			next = append(next, tagNode(level[i], level[i+1]))
		}
	}
	return next
}

// partners returns the path of an element: what each digest on its way upwards is paired with.
func partners(all [][]api.Digest, at int) (path []api.Digest) {
	for _, level := range all {
		if partner := at ^ 1; partner < len(level) {
			path = append(path, level[partner])
		}
		at /= 2
	}
	return path
}

func TestTreesAndPaths(t *testing.T) {
	lengths := []int{127, 128, 129, 200, 255}
	for n := 1; n <= 70; n++ {
		lengths = append(lengths, n)
	}
	for _, n := range lengths {
		l := row(n)
		all := levels(l)
		root := all[len(all)-1][0]
		if Tree(l) != root {
			t.Error("Tree", n)
		}
		for i, d := range l {
			path, e := Path(l, i)
			if e != api.OK || !slices.Equal(path, partners(all, i)) {
				t.Error("Path", n, i, e)
			}
			if x, e := Climb(d, i, n, path); e != api.OK || x != root {
				t.Error("Climb", n, i, e)
			}
		}
	}
}

func TestSmallPaths(t *testing.T) {
	l := row(5)
	var leaves []api.Digest
	for _, d := range l {
		leaves = append(leaves, tagLeaf(d))
	}
	a, b := tagNode(leaves[0], leaves[1]), tagNode(leaves[2], leaves[3])
	for i, x := range []struct {
		n, at int
		want  []api.Digest
	}{
		{1, 0, nil},
		{2, 0, leaves[1:2]},
		{2, 1, leaves[0:1]},
		{3, 1, []api.Digest{leaves[0], leaves[2]}},
		{3, 2, []api.Digest{a}},
		{4, 1, []api.Digest{leaves[0], b}},
		{4, 3, []api.Digest{leaves[2], a}},
		{5, 2, []api.Digest{leaves[3], a, leaves[4]}},
		{5, 4, []api.Digest{tagNode(a, b)}},
	} {
		if path, e := Path(l[:x.n], x.at); e != api.OK || !slices.Equal(path, x.want) {
			t.Error(i, path, e)
		}
	}
}

func TestNoIndex(t *testing.T) {
	for _, n := range []int{0, 1, 2, 3, 5, 64} {
		for _, at := range []int{math.MinInt, -n - 1, -1, n, n + 1, 2*n + 1, 1 << 40, math.MaxInt} {
			if path, e := Path(row(n), at); e != api.ErrArg || len(path) > 0 {
				t.Error("Path", n, at, len(path), e)
			}
			for length := range 9 {
				if d, e := Climb(filled(1), at, n, row(length)); e != api.ErrArg || d != (api.Digest{}) {
					t.Error("Climb", n, at, length, e)
				}
			}
		}
	}
}

func TestClimbElements(t *testing.T) {
	for _, n := range []int{math.MinInt, -1 << 40, -1, 0, 1<<40 + 1, 1 << 41, math.MaxInt} {
		for _, at := range []int{math.MinInt, n - 1, -1, 0, 1, n / 2, math.MaxInt} {
			for length := range 66 {
				if d, e := Climb(filled(1), at, n, row(length)); e != api.ErrArg || d != (api.Digest{}) {
					t.Error(n, at, length, e)
				}
			}
		}
	}
}

// climbed returns to what a path leads, level by level, and whether it has the right length.
func climbed(d api.Digest, at, n int, path []api.Digest) (root api.Digest, ok bool) {
	root = tagLeaf(d)
	for ; n > 1; at, n = at/2, (n+1)/2 {
		if at^1 >= n {
			continue
		}
		if len(path) == 0 {
			return root, false
		}
		if at%2 == 0 {
			root = tagNode(root, path[0])
		} else {
			root = tagNode(path[0], root)
		}
		path = path[1:]
	}
	return root, len(path) == 0
}

// Paths of any digests, also of lists that nobody can store, lead to something if, and only if, they have the right length.
func TestClimbLengths(t *testing.T) {
	lengths := []int{1<<20 + 3, 1<<31 - 1, 1 << 31, 1 << 32, 1<<32 + 1, 0x5555555555, 1 << 39, 1<<39 + 1, 1<<40 - 1, 1 << 40}
	for n := 1; n <= 18; n++ {
		lengths = append(lengths, n)
	}
	for _, n := range lengths {
		for _, at := range []int{0, 1, n / 3, n/2 - 1, n / 2, n/2 + 1, n - 2, n - 1} {
			if at < 0 || at >= n {
				continue
			}
			found := 0
			for length := range 43 {
				want, ok := climbed(filled(9), at, n, row(length))
				root, e := Climb(filled(9), at, n, row(length))
				if ok && (e != api.OK || root != want) || !ok && (e != api.ErrArg || root != (api.Digest{})) {
					t.Error(n, at, length, e)
				}
				if ok && length <= 40 {
					found++
				}
			}
			if found != 1 {
				t.Error(n, at, "has no path of at most 40 elements")
			}
		}
	}
}

// What is not in the list, or not there, does not lead to its digest.
func TestClimbElsewhere(t *testing.T) {
	n := 11
	l := row(n)
	root := Tree(l)
	for i, d := range l {
		path, _ := Path(l, i)
		if x, _ := Climb(filled(99), i, n, path); x == root {
			t.Error(i, "another element")
		}
		for k := range n {
			if x, _ := Climb(d, k, n, path); k != i && x == root {
				t.Error(i, k, "another index")
			}
		}
		for k := range path {
			other := slices.Clone(path)
			other[k][31] ^= 1
			if x, e := Climb(d, i, n, other); e != api.OK || x == root {
				t.Error(i, k, "another path", e)
			}
		}
	}
}

func TestTreesDiffer(t *testing.T) {
	seen := map[api.Digest]int{Tree([]api.Digest{filled(2), filled(1)}): -1}
	for n := range 40 {
		d := Tree(row(n))
		if k, ok := seen[d]; ok {
			t.Error(n, k)
		}
		seen[d] = n
		for i := range n {
			l := row(n)
			l[i][0] ^= 1
			if Tree(l) == d {
				t.Error(n, i)
			}
		}
	}
}

func TestTreeOfParts(t *testing.T) {
	for n := 2; n <= 70; n++ {
		k := 1
		for 2*k < n {
			k *= 2
		}
		l := row(n)
		if Tree(l) != tagNode(Tree(l[:k]), Tree(l[k:])) {
			t.Error(n)
		}
	}
	for k := 1; k <= 64; k *= 2 {
		l := row(k + 1)
		if Tree(l) != tagNode(Tree(l[:k]), tagLeaf(l[k])) {
			t.Error("an element after", k)
		}
	}
}

func TestPathsLength(t *testing.T) {
	for n := 1; n <= 70; n++ {
		most := 0
		for 1<<most < n {
			most++
		}
		l := row(n)
		for i := range l {
			if path, e := Path(l, i); e != api.OK || len(path) > most || i == 0 && len(path) != most {
				t.Error(n, i, len(path), e)
			}
		}
	}
}

func TestChain(t *testing.T) {
	if d := Chain(api.Digest{}, api.Digest{}); hex.EncodeToString(d[:]) != zeroChain || d != Tagged("chain", make([]byte, 64)) {
		t.Errorf("%x", d)
	}
	var end api.Digest
	for i, want := range []string{
		"cd4848b9f32e92f03d7f3403117436545c16675bba932acca637d168dcb53b7e",
		"735c697abe1a7daf24a95ccd62b51ee10f1085a0e7cce684d5040503f3f33469",
		"8b195c8ac4a821a13f30e330c448aaa4975012233355575c6584f69e2516f1b5",
	} {
		d := filled(byte(i + 1))
		next := Chain(end, d)
		if hex.EncodeToString(next[:]) != want || next != Tagged("chain", slices.Concat(end[:], d[:])) {
			t.Errorf("%d: %x", i, next)
		}
		if Chain(d, end) == next {
			t.Error(i, "the end and the element are confused")
		}
		end = next
	}
}

// Lists have other chains if an element, their order, their length or the beginning is another one.
func TestChainsDiffer(t *testing.T) {
	seen := map[api.Digest]int{}
	for i, l := range [][]api.Digest{row(5), row(1), row(2), row(3), row(4), row(6), row(5)[1:], {filled(2), filled(1)}, {filled(1), filled(3)}} {
		for b := range 2 {
			end := filled(byte(100 + b))
			for _, d := range l {
				end = Chain(end, d)
			}
			if k, ok := seen[end]; ok {
				t.Error(i, k)
			}
			seen[end] = i
		}
	}
}

func TestListsStay(t *testing.T) {
	room := append(row(13), filled(77), filled(78))
	l := room[:13]
	var paths [][]api.Digest
	for i, d := range l {
		path, _ := Path(l, i)
		paths = append(paths, slices.Clip(path))
		Climb(d, i, len(l), path)
	}
	Tree(l)
	if !slices.Equal(room, append(row(13), filled(77), filled(78))) {
		t.Error("an argument was changed")
	}
	clear(room)
	for i, path := range paths {
		if want, _ := Path(row(13), i); !slices.Equal(path, want) {
			t.Error(i, "a result was changed")
		}
	}
}
