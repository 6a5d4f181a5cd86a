package proxy

import (
	"bytes"
	"crypto/sha256"
	"encoding/binary"
	"encoding/hex"
	"math"
	"math/big"
	"math/rand"
	"testing"

	"chartroom/api"
)

const last = api.Q - 1 // the greatest private key

var noPrivates = []int{0, -1, -2, -last, -api.Q, -api.Q - 1, math.MinInt, math.MinInt + 1, api.Q, api.Q + 1, 2*api.Q - 1, 2 * api.Q, api.P, api.P + 1, 1 << 62, math.MaxInt - 1, math.MaxInt}

var noElements = []int{0, -1, -2, -4, -api.P, 4 - api.P, math.MinInt, api.P, api.P + 1, api.P + 4, 2 * api.P, math.MaxInt, 2, 6, 7, 8, api.P - 1, api.P - 3, api.P - 4}

// counting returns the key with the bytes 0, 1 .. 31.
func counting() (k api.Key) {
	for i := range k {
		k[i] = byte(i)
	}
	return k
}

// full returns the key whose bits are all 1.
func full() (k api.Key) {
	for i := range k {
		k[i] = 255
	}
	return k
}

// noise returns a key, by a rule.
func noise(n int) (k api.Key) {
	rand.New(rand.NewSource(int64(n))).Read(k[:])
	return k
}

// flipped returns a key of which the bit i is another one.
func flipped(k api.Key, i int) api.Key {
	k[i/8] ^= 1 << (i % 8)
	return k
}

// privates returns the private keys at the ends and in the middle, and n others by a rule.
func privates(n int) []int {
	l := []int{1, 2, 3, 255, 256, 1 << 60, last / 2, last/2 + 1, last - 1, last}
	r := rand.New(rand.NewSource(int64(n)))
	for range n {
		l = append(l, 1+r.Intn(last))
	}
	return l
}

// elements returns elements at the ends, and n others by a rule.
func elements(n int) []int {
	l := []int{1, 3, 4, 16, 1 << 60, api.Q, api.P - 2}
	for _, k := range privates(n) {
		l = append(l, raised(9, k))
	}
	return l
}

func number(a int) *big.Int { return big.NewInt(int64(a)) }

// raised returns a power modulo P.
func raised(a, k int) int {
	return int(new(big.Int).Exp(number(a), number(k), number(api.P)).Int64())
}

// times returns a product modulo m.
func times(a, b, m int) int {
	n := new(big.Int).Mul(number(a), number(b))
	return int(n.Mod(n, number(m)).Int64())
}

// undone returns an inverse modulo m.
func undone(a, m int) int {
	return int(new(big.Int).ModInverse(number(a), number(m)).Int64())
}

func isPrivate(n int) bool { return n >= 1 && n <= last }

// isElement reports whether a number is a square modulo P, and not 0.
func isElement(a int) bool {
	return a > 0 && a < api.P && big.Jacobi(number(a), number(api.P)) == 1
}

// tagged returns the hash of parts under a tag, by the hash of the test library.
func tagged(tag string, parts ...[]byte) [32]byte {
	first := sha256.Sum256([]byte(tag))
	return sha256.Sum256(append(first[:], bytes.Join(parts, nil)...))
}

// drawn returns the scalar that a seed leads to for a label of four characters, without derive.
func drawn(seed api.Key, label string) int {
	k := tagged("derive", seed[:], []byte{3, 1, 2, 4}, []byte(label))
	d := tagged("scalar", k[:])
	n := new(big.Int).SetBytes(d[:])
	return 1 + int(n.Mod(n, big.NewInt(api.Q-1)).Int64())
}

// xored returns the exclusive or of a key and the mask of an element.
func xored(k api.Key, m int) api.Key {
	d := tagged("pad", binary.BigEndian.AppendUint64(nil, uint64(m)))
	n := new(big.Int).SetBytes(k[:])
	n.Xor(n, new(big.Int).SetBytes(d[:])).FillBytes(k[:])
	return k
}

// locked returns what Lock should return.
func locked(public int, k, seed api.Key) api.Capsule {
	r, m := drawn(seed, "lock"), raised(api.G, drawn(seed, "mask"))
	return api.Capsule{A: raised(public, r), B: times(m, raised(api.G, r), api.P), Pad: xored(k, m)}
}

// opened returns what Open should return.
func opened(private int, c api.Capsule) api.Key {
	z := raised(c.A, undone(private, api.Q))
	return xored(c.Pad, times(c.B, undone(z, api.P), api.P))
}

func lockOf(t *testing.T, public int, k, seed api.Key) api.Capsule {
	t.Helper()
	c, e := Lock(public, k, seed)
	if e != api.OK || Check(c) != api.OK {
		t.Fatal("Lock", public, c, e)
	}
	return c
}

func keyOf(t *testing.T, private int, c api.Capsule) api.Key {
	t.Helper()
	k, e := Open(private, c)
	if e != api.OK {
		t.Fatal("Open", private, c, e)
	}
	return k
}

func factorOf(t *testing.T, from, to int) int {
	t.Helper()
	n, e := Factor(from, to)
	if e != api.OK || !isPrivate(n) {
		t.Fatal("Factor", from, to, n, e)
	}
	return n
}

// turnOf checks that what is not to be turned stays.
func turnOf(t *testing.T, n int, c api.Capsule) api.Capsule {
	t.Helper()
	x, e := Turn(n, c)
	if e != api.OK || Check(x) != api.OK || x.B != c.B || x.Pad != c.Pad {
		t.Fatal("Turn", n, c, x, e)
	}
	return x
}

// refuse checks that Open and Turn return an error, and nothing else.
func refuse(t *testing.T, want api.Errno, private int, c api.Capsule) {
	t.Helper()
	if k, e := Open(private, c); e != want || k != (api.Key{}) {
		t.Error("Open", private, c, k, e)
	}
	if x, e := Turn(private, c); e != want || x != (api.Capsule{}) {
		t.Error("Turn", private, c, x, e)
	}
}

func refuseFactor(t *testing.T, from, to int) {
	t.Helper()
	if n, e := Factor(from, to); e != api.ErrKey || n != 0 {
		t.Error("Factor", from, to, n, e)
	}
}

func TestCheck(t *testing.T) {
	good := elements(30)
	for i, a := range good {
		b := good[len(good)-1-i]
		for _, pad := range []api.Key{{}, counting(), full()} {
			for _, c := range []api.Capsule{{A: a, B: b, Pad: pad}, {A: a, B: a, Pad: pad}, {A: 1, B: b, Pad: pad}, {A: a, B: 1, Pad: pad}} {
				if e := Check(c); e != api.OK {
					t.Error(c, e)
				}
			}
		}
	}
	for _, bad := range noElements {
		for _, a := range append(good, noElements...) {
			for _, c := range []api.Capsule{{A: a, B: bad}, {A: bad, B: a}, {A: a, B: bad, Pad: full()}, {A: bad, B: a, Pad: counting()}} {
				if e := Check(c); e != api.ErrCapsule {
					t.Error(c, e)
				}
			}
		}
	}
	if Check(api.Capsule{}) != api.ErrCapsule || Check(api.Capsule{Pad: full()}) != api.ErrCapsule {
		t.Error("the zero capsule")
	}
}

// A number is accepted as A, as B and as a public key exactly if it is a square.
func TestSquares(t *testing.T) {
	r := rand.New(rand.NewSource(2))
	for i := range 2000 {
		a := i - 100
		if i > 1000 {
			a = int(r.Uint64() >> 1)
		}
		if (Check(api.Capsule{A: a, B: 4}) == api.OK) != isElement(a) || (Check(api.Capsule{A: 4, B: a}) == api.OK) != isElement(a) {
			t.Error("Check", a)
		}
		if _, e := Lock(a, api.Key{}, api.Key{}); (e == api.OK) != isElement(a) {
			t.Error("Lock", a, e)
		}
	}
}

// The known capsules, keys and factors were calculated with another program.
func TestLockKnown(t *testing.T) {
	for i, x := range []struct {
		private int
		k, seed api.Key
		a, b    int
		pad     string
		n, to   int
	}{
		{1, api.Key{}, api.Key{}, 3073775692055553584, 418874712882492186, "8af79a6e97bf9e1f7dd49c2eae24f9217aaf4a729f78dd304805ff2cc8a6e65d", 7, 1309006117066689754},
		{5, api.Key{}, api.Key{}, 178228650313154811, 418874712882492186, "8af79a6e97bf9e1f7dd49c2eae24f9217aaf4a729f78dd304805ff2cc8a6e65d", 922337203685475469, 1309006117066689754},
		{5, counting(), api.Key{}, 178228650313154811, 418874712882492186, "8af6986d93ba981875dd9625a229f72e6abe58618b6dcb27501ce537d4bbf842", 922337203685475469, 1309006117066689754},
		{5, counting(), counting(), 271448105001818408, 2854911276176865015, "66e9eda59c28482ac7c17ac3972c514685706a1150c7db008ac736a981013e4e", 922337203685475469, 1571378861217704932},
		{last, full(), full(), 3450866985887713005, 4204875964620463665, "de2ef02ca2421652f549803e9de9a88073e0a26dacd6560d272eaf0c223ec464", 2305843009213688662, 2616192371096917907},
		{1234567890123456789, api.Key{5}, api.Key{7}, 1001956552483606326, 1353559075016756545, "e2f993e0e35789101424833c0689a7bc9f0e50d6cb5418cac1080e55c86af22c", 1788309444303938919, 3868465108117783108},
		{last / 2, counting(), full(), 2149085622083662505, 4204875964620463665, "21d00dd059b8efaa02bf75ca6e1b59709c0e4f81473cbfe5c0c84ae8c1dc2584", 2305843009213688655, 2616192371096917907},
	} {
		c := lockOf(t, raised(api.G, x.private), x.k, x.seed)
		if c.A != x.a || c.B != x.b || hex.EncodeToString(c.Pad[:]) != x.pad {
			t.Errorf("%d: %d %d %x", i, c.A, c.B, c.Pad)
		}
		n := factorOf(t, x.private, 7)
		d := turnOf(t, n, c)
		if n != x.n || d.A != x.to {
			t.Error(i, n, d.A)
		}
		if keyOf(t, x.private, c) != x.k || keyOf(t, 7, d) != x.k {
			t.Error("Open", i)
		}
	}
}

// Public keys of which no private key is known, and the element 1, are public keys as well as others.
func TestLockForElements(t *testing.T) {
	for i, x := range []struct {
		public int
		seed   api.Key
		a, b   int
		pad    string
	}{
		{1, api.Key{}, 1, 418874712882492186, "8af6986d93ba981875dd9625a229f72e6abe58618b6dcb27501ce537d4bbf842"},
		{1, counting(), 1, 2854911276176865015, "66e9eda59c28482ac7c17ac3972c514685706a1150c7db008ac736a981013e4e"},
		{api.P - 2, counting(), 729499435659812194, 2854911276176865015, "66e9eda59c28482ac7c17ac3972c514685706a1150c7db008ac736a981013e4e"},
	} {
		c := lockOf(t, x.public, counting(), x.seed)
		if c.A != x.a || c.B != x.b || hex.EncodeToString(c.Pad[:]) != x.pad {
			t.Errorf("%d: %d %d %x", i, c.A, c.B, c.Pad)
		}
	}
	for i, public := range elements(200) {
		if c := lockOf(t, public, noise(i), noise(-i)); c != locked(public, noise(i), noise(-i)) {
			t.Error(public, c)
		}
	}
}

// No private key has the public key 1, so that none opens what was locked for it.
func TestLockForOne(t *testing.T) {
	c := lockOf(t, 1, counting(), full())
	for _, private := range privates(50) {
		if k := keyOf(t, private, c); k == counting() || k != opened(private, c) {
			t.Error(private, k)
		}
	}
}

func TestLockOfMany(t *testing.T) {
	for i, private := range privates(100) {
		public := raised(api.G, private)
		for j, seed := range []api.Key{{}, {31: 1}, {byte(i), 1}, counting(), full(), noise(i)} {
			for _, k := range []api.Key{{}, full(), noise(10*i + j)} {
				c := lockOf(t, public, k, seed)
				if c != locked(public, k, seed) {
					t.Error("Lock", private, j, c)
				}
				if keyOf(t, private, c) != k {
					t.Error("Open", private, j)
				}
			}
		}
	}
}

func TestLockRefuses(t *testing.T) {
	for _, public := range noElements {
		for _, k := range []api.Key{{}, counting(), full()} {
			for _, seed := range []api.Key{{}, counting(), full()} {
				if c, e := Lock(public, k, seed); e != api.ErrGroup || c != (api.Capsule{}) {
					t.Error(public, c, e)
				}
			}
		}
	}
}

// Capsules that nobody may have locked are opened as well as others.
func TestOpenKnown(t *testing.T) {
	for i, x := range []struct {
		private int
		c       api.Capsule
		want    string
	}{
		{1, api.Capsule{A: 1, B: 1}, "c67c6c8a5c5d4dcec4c6795bfaf15e2f93979b2fba5643e40e1c9528375aecac"},
		{last, api.Capsule{A: 4, B: 16}, "52973688574fb08638619a9987f8904540d3645640884795ad84bff1d4496dcb"},
		{3, api.Capsule{A: api.P - 2, B: 9, Pad: counting()}, "bc319b2cc9ce15096e1aabd62126698b6415851ee78ada01018ddad8168d556c"},
		{12345678901234567, api.Capsule{A: 16, B: api.P - 2, Pad: full()}, "c9c9011b1424d687a5ec987f496ab93d30284fb8cf84a6a01c33bdcafd6780f1"},
		{(api.Q + 1) / 2, api.Capsule{A: 4, B: 4, Pad: counting()}, "c87c7f3821f781b1cc830f8243fd7e769065a6d9eac0527d0be77cba2d027b10"},
	} {
		if k := keyOf(t, x.private, x.c); hex.EncodeToString(k[:]) != x.want {
			t.Errorf("%d: %x", i, k)
		}
	}
}

func TestOpenOfMany(t *testing.T) {
	l := elements(30)
	for i, private := range privates(50) {
		for j, a := range l {
			c := api.Capsule{A: a, B: l[(i+j)%len(l)], Pad: noise(i * j)}
			if k := keyOf(t, private, c); k != opened(private, c) {
				t.Error(private, c, k)
			}
		}
	}
}

func TestCapsulesRefused(t *testing.T) {
	good := lockOf(t, 1024, counting(), counting())
	bad := []api.Capsule{{}, {Pad: full()}, {A: good.A}, {B: good.B}}
	for _, a := range noElements {
		bad = append(bad, api.Capsule{A: a, B: good.B, Pad: good.Pad}, api.Capsule{A: good.A, B: a, Pad: good.Pad}, api.Capsule{A: a, B: a})
	}
	for _, private := range noPrivates {
		for _, c := range append(bad, good) {
			refuse(t, api.ErrKey, private, c)
		}
	}
	for _, private := range []int{1, 5, last} {
		for _, c := range bad {
			refuse(t, api.ErrCapsule, private, c)
		}
	}
}

func TestFactorKnown(t *testing.T) {
	for i, x := range []struct{ from, to, n int }{
		{1, 1, 1}, {5, 5, 1}, {1, 7, 7}, {2, 4, 2}, {2, 1, 1152921504606844335}, {3, 5, 1537228672809125781}, {5, 3, 1383505805528213202},
		{last, 1, last}, {1, last, last}, {last, last, 1}, {last, 2, 2305843009213688667},
		{1234567890123456789, 987654321, 470429885457260913}, {(api.Q + 1) / 2, 2, 4},
	} {
		if n := factorOf(t, x.from, x.to); n != x.n {
			t.Error(i, n)
		}
	}
}

func TestFactorOfMany(t *testing.T) {
	l := privates(60)
	for _, from := range l {
		for _, to := range l {
			n := factorOf(t, from, to)
			if n != times(to, undone(from, api.Q), api.Q) || times(n, from, api.Q) != to {
				t.Error(from, to, n)
			}
		}
	}
}

func TestFactorRefuses(t *testing.T) {
	for _, bad := range noPrivates {
		for _, other := range append(privates(5), noPrivates...) {
			refuseFactor(t, bad, other)
			refuseFactor(t, other, bad)
		}
	}
}

func TestTurnKnown(t *testing.T) {
	for i, x := range []struct{ n, a, want int }{
		{1, 4, 4}, {2, 4, 16}, {last, 4, 1152921504606844335}, {last, 1, 1}, {12345678901234567, api.P - 2, 3807124541473147102}, {(api.Q + 1) / 2, 9, 3},
	} {
		for _, b := range []int{1, 16, api.P - 2} {
			if c := turnOf(t, x.n, api.Capsule{A: x.a, B: b, Pad: counting()}); c.A != x.want {
				t.Error(i, c)
			}
		}
	}
}

// Every number from 1 to Q - 1 turns, whether or not anyone knows of which keys it is the factor.
func TestTurnOfMany(t *testing.T) {
	l := elements(30)
	for i, n := range privates(50) {
		for j, a := range l {
			c := api.Capsule{A: a, B: l[(i+j)%len(l)], Pad: noise(i * j)}
			if x := turnOf(t, n, c); x.A != raised(a, n) {
				t.Error(n, c, x)
			}
		}
	}
}

// What was turned is what Lock would have made for the other public key, and is opened by its private key alone.
func TestTurnedIsLocked(t *testing.T) {
	l := privates(15)
	for i, from := range l {
		k, seed := noise(i), noise(100+i)
		c := lockOf(t, raised(api.G, from), k, seed)
		for j, to := range l {
			x := turnOf(t, factorOf(t, from, to), c)
			if x != lockOf(t, raised(api.G, to), k, seed) {
				t.Error("Turn", from, to)
			}
			for _, private := range []int{to, from, l[(j+1)%len(l)]} {
				if (keyOf(t, private, x) == k) != (private == to) {
					t.Error("Open", from, to, private)
				}
			}
		}
	}
}

// Whoever turns a capsule that nobody may have locked leads the other private key to the same key.
func TestTurnOfElements(t *testing.T) {
	l := elements(10)
	for i, from := range privates(20) {
		for j, to := range privates(20) {
			c := api.Capsule{A: l[(i+j)%len(l)], B: l[i%len(l)], Pad: noise(j)}
			if keyOf(t, to, turnOf(t, factorOf(t, from, to), c)) != keyOf(t, from, c) {
				t.Error(from, to, c)
			}
		}
	}
}

func TestTurnTwice(t *testing.T) {
	l := elements(10)
	for i, n := range privates(20) {
		for j, m := range privates(20) {
			c := api.Capsule{A: l[(i+j)%len(l)], B: l[j%len(l)], Pad: noise(i)}
			twice := turnOf(t, m, turnOf(t, n, c))
			if twice != turnOf(t, times(n, m, api.Q), c) || twice != turnOf(t, n, turnOf(t, m, c)) {
				t.Error(n, m, c)
			}
			if turnOf(t, undone(n, api.Q), turnOf(t, n, c)) != c || turnOf(t, 1, c) != c {
				t.Error("back", n, c)
			}
		}
	}
}

func TestFactorsOfThree(t *testing.T) {
	l := privates(8)
	for i, a := range l {
		c := lockOf(t, raised(api.G, a), noise(i), counting())
		for _, b := range l {
			ab := factorOf(t, a, b)
			if times(ab, factorOf(t, b, a), api.Q) != 1 {
				t.Error("back", a, b)
			}
			for _, d := range l {
				bd, ad := factorOf(t, b, d), factorOf(t, a, d)
				if ad != times(ab, bd, api.Q) {
					t.Error(a, b, d)
				}
				if turned := turnOf(t, bd, turnOf(t, ab, c)); turned != turnOf(t, ad, c) || keyOf(t, d, turned) != noise(i) {
					t.Error("Turn", a, b, d)
				}
			}
		}
	}
}

// Each bit of a key is hidden by one bit of the pad, and nothing else of a capsule depends on the key.
func TestKeysInPads(t *testing.T) {
	k, seed := counting(), noise(1)
	c := lockOf(t, 1024, k, seed)
	for i := range 256 {
		x := c
		x.Pad = flipped(c.Pad, i)
		if lockOf(t, 1024, flipped(k, i), seed) != x || keyOf(t, 5, x) != flipped(k, i) {
			t.Error(i)
		}
	}
}

// Seeds that differ in a bit lead to other elements and to another mask; for another public key only A is another one.
func TestSeeds(t *testing.T) {
	seed, seen := counting(), map[int]bool{}
	pads := map[api.Key]bool{}
	for i := -1; i < 256; i++ {
		s := seed
		if i >= 0 {
			s = flipped(seed, i)
		}
		c := lockOf(t, 1024, api.Key{}, s)
		if seen[c.A] || seen[c.B] || c.A == c.B || pads[c.Pad] {
			t.Error(i)
		}
		seen[c.A], seen[c.B], pads[c.Pad] = true, true, true
		if x := lockOf(t, 16, api.Key{}, s); x.A == c.A || x.B != c.B || x.Pad != c.Pad {
			t.Error("another public key", i)
		}
	}
}

func TestMask(t *testing.T) {
	for _, m := range []int{0, 1, 256, 0x0102030405060708, api.P - 2, api.P} {
		if k := mask(m); k != xored(api.Key{}, m) {
			t.Errorf("%d: %x", m, k)
		}
	}
	if k := mask(256); k != tagged("pad", []byte{0, 0, 0, 0, 0, 0, 1, 0}) {
		t.Errorf("%x", k)
	}
	if k := mask(0x0102030405060708); k != tagged("pad", []byte{1, 2, 3, 4, 5, 6, 7, 8}) {
		t.Errorf("%x", k)
	}
}

func TestCombined(t *testing.T) {
	if k := combined(api.Key{0: 0x0f, 1: 3, 31: 0xff}, api.Key{0: 0xf1, 2: 5, 31: 0xff}); k != (api.Key{0: 0xfe, 1: 3, 2: 5}) {
		t.Error(k)
	}
	for i := range 20 {
		a, b := noise(i), noise(i+1)
		if combined(a, b) != combined(b, a) || combined(combined(a, b), b) != a || combined(a, a) != (api.Key{}) || combined(a, api.Key{}) != a {
			t.Error(i)
		}
	}
}

// Opening leads back from where locking leads, by what another one knows.
func TestDirections(t *testing.T) {
	l := elements(5)
	for i, private := range privates(20) {
		for j, r := range privates(5) {
			m, k := l[(i+j)%len(l)], noise(i+j)
			b, pad := locking(r).pass(m, k)
			if b != times(m, raised(api.G, r), api.P) || pad != xored(k, m) {
				t.Error("locking", r, m)
			}
			if to, x := opening(private, raised(raised(api.G, private), r)).pass(b, pad); to != m || x != k {
				t.Error("opening", private, r, m)
			}
		}
	}
}

func TestAttempt(t *testing.T) {
	if n, e := attempt(func() int { return must(7, api.OK) }); n != 7 || e != api.OK {
		t.Error(n, e)
	}
	for _, want := range []api.Errno{api.ErrArg, api.ErrGroup, api.ErrKey, api.ErrCapsule} {
		if n, e := attempt(func() int { return must(7, want) }); n != 0 || e != want {
			t.Error("must", n, e)
		}
		if k, e := attempt(func() api.Key { ensure(want); ensure(api.ErrZero); return full() }); k != (api.Key{}) || e != want {
			t.Error("ensure", k, e)
		}
	}
}

func TestEqualCalls(t *testing.T) {
	c, n := lockOf(t, 1024, counting(), noise(1)), factorOf(t, 5, 9)
	kept, x := c, turnOf(t, n, c)
	for range 5 {
		keyOf(t, 7, lockOf(t, 16, full(), noise(2)))
		refuse(t, api.ErrCapsule, 5, api.Capsule{A: 2, B: 4})
		if lockOf(t, 1024, counting(), noise(1)) != kept || factorOf(t, 5, 9) != n || turnOf(t, n, c) != x || keyOf(t, 5, c) != counting() || c != kept {
			t.Error("another result")
		}
	}
}

func FuzzProxy(f *testing.F) {
	f.Add(5, 7, 4, 16, []byte{}, []byte{1})
	f.Add(0, 1, 2, 4, []byte{1}, []byte{})
	f.Add(last, api.Q, api.P, 1, []byte{2}, make([]byte, 32))
	f.Add(1, -1, 1, api.P-2, []byte{3}, make([]byte, 40))
	f.Fuzz(func(t *testing.T, private, to, a, b int, first, second []byte) {
		var k, seed api.Key
		copy(k[:], first)
		copy(seed[:], second)
		if c, e := Lock(a, k, seed); isElement(a) && (e != api.OK || c != locked(a, k, seed)) || !isElement(a) && (e != api.ErrGroup || c != api.Capsule{}) {
			t.Error("Lock", a, c, e)
		}
		c := api.Capsule{A: a, B: b, Pad: k}
		valid := isElement(a) && isElement(b)
		if (Check(c) == api.OK) != valid || !valid && Check(c) != api.ErrCapsule {
			t.Error("Check", c)
		}
		switch {
		case !isPrivate(private):
			refuse(t, api.ErrKey, private, c)
			refuseFactor(t, private, to)
			return
		case !isPrivate(to):
			refuseFactor(t, private, to)
			return
		}
		n := factorOf(t, private, to)
		if n != times(to, undone(private, api.Q), api.Q) {
			t.Error("Factor", private, to, n)
		}
		own := lockOf(t, raised(api.G, private), k, seed)
		if keyOf(t, private, own) != k || keyOf(t, to, turnOf(t, n, own)) != k {
			t.Error("locked", private, to)
		}
		if !valid {
			refuse(t, api.ErrCapsule, private, c)
			return
		}
		x := turnOf(t, n, c)
		if keyOf(t, private, c) != opened(private, c) || x.A != raised(a, n) || keyOf(t, to, x) != opened(private, c) {
			t.Error("turned", private, to, c)
		}
	})
}
