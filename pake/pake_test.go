package pake

import (
	"bytes"
	"crypto/sha256"
	"encoding/binary"
	"encoding/hex"
	"iter"
	"math"
	"math/big"
	"math/rand"
	"slices"
	"testing"

	"chartroom/api"
	"chartroom/group"
)

const last = api.Q - 1 // the greatest secret

// hostLog is the exponent with which the mask of the guest is a power of that of the host. It was found with another program.
const hostLog = 801888793987215854

var noRoles = []int{0, 3, 4, -1, -2, 257, 258, 1<<32 + 1, 1<<32 + 2, math.MinInt, math.MinInt + 1, math.MaxInt}

var noCodes = []int{-1, -2, -999999, 1000000, 1000001, 1 << 20, 1 << 32, 1<<32 + 1, math.MinInt, math.MaxInt}

var noSecrets = []int{0, -1, -2, -last, -api.Q, -api.Q - 1, math.MinInt, math.MinInt + 1, api.Q, api.Q + 1, 2 * api.Q, api.P, api.P + 1, 1 << 62, math.MaxInt - 1, math.MaxInt}

var noElements = []int{0, -1, -2, -4, -api.P, 4 - api.P, math.MinInt, api.P, api.P + 1, api.P + 4, 2 * api.P, math.MaxInt, 2, 6, 7, 8, api.P - 1, api.P - 3, api.P - 4}

var codes = []int{0, 1, 2, 42, 255, 256, 65535, 65536, 99999, 100000, 123456, 500000, 999998, 999999}

// secrets returns the secrets at the ends and in the middle, and n others by a rule.
func secrets(n int) []int {
	l := []int{1, 2, 3, 255, 256, 1 << 60, last / 2, last/2 + 1, last - 1, last}
	r := rand.New(rand.NewSource(int64(n)))
	for range n {
		l = append(l, 1+r.Intn(last))
	}
	return l
}

// elements returns elements at the ends, and n others by a rule.
func elements(n int) []int {
	l := []int{1, 3, 4, 16, 1 << 60, api.Q, api.P - 2}
	for _, k := range secrets(n) {
		l = append(l, raised(9, k))
	}
	return l
}

// pairs yields hosts and guests with the same code, by a rule.
func pairs(n int) iter.Seq2[api.Side, api.Side] {
	return func(yield func(h, g api.Side) bool) {
		r := rand.New(rand.NewSource(int64(n)))
		l := secrets(n)
		for i, code := range codes {
			for j, secret := range l {
				if !yield(api.Side{Role: 1, Code: code, Secret: secret}, api.Side{Role: 2, Code: code, Secret: l[(i+j)%len(l)]}) {
					return
				}
				code = r.Intn(1000000)
			}
		}
	}
}

func number(a int) *big.Int { return big.NewInt(int64(a)) }

// raised returns a power modulo P, also with an exponent less than 0.
func raised(a, k int) int {
	return int(new(big.Int).Exp(number(a), number(k), number(api.P)).Int64())
}

// times returns a product modulo P.
func times(a, b int) int {
	n := new(big.Int).Mul(number(a), number(b))
	return int(n.Mod(n, number(api.P)).Int64())
}

// timesQ returns a product modulo Q.
func timesQ(a, b int) int {
	n := new(big.Int).Mul(number(a), number(b))
	return int(n.Mod(n, number(api.Q)).Int64())
}

// tagged returns the hash of parts under a tag, by the hash of the test library.
func tagged(tag string, parts ...[]byte) [32]byte {
	first := sha256.Sum256([]byte(tag))
	return sha256.Sum256(append(first[:], bytes.Join(parts, nil)...))
}

func eight(n int) []byte { return binary.BigEndian.AppendUint64(nil, uint64(n)) }

// rest returns 1 or 2 numbers more than the remainder of the number of a hash.
func rest(d [32]byte, m, more int) int {
	n := new(big.Int).SetBytes(d[:])
	return more + int(n.Mod(n, number(m)).Int64())
}

// masked returns the mask of a role.
func masked(role int) int {
	name := map[int]string{1: "host", 2: "guest"}[role]
	return raised(rest(tagged("pake", []byte(name)), api.P-3, 2), 2)
}

// passed returns the password of a code.
func passed(code int) int {
	return rest(tagged("code", eight(code)), api.Q-1, 1)
}

// pointed returns what Point should return.
func pointed(s api.Side) int {
	return times(raised(api.G, s.Secret), raised(masked(s.Role), passed(s.Code)))
}

// agreed returns the shared element of a side.
func agreed(s api.Side, peer int) int {
	return raised(times(peer, raised(masked(3-s.Role), -passed(s.Code))), s.Secret)
}

// keyed returns the key of two points and a shared element.
func keyed(h, g, z int) api.Key {
	return tagged("pake", eight(h), eight(g), eight(z))
}

// sharedBy returns what Shared should return.
func sharedBy(s api.Side, peer int) api.Key {
	if s.Role == 1 {
		return keyed(pointed(s), peer, agreed(s, peer))
	}
	return keyed(peer, pointed(s), agreed(s, peer))
}

// proved returns the proof of a role for a key.
func proved(k api.Key, role byte) api.Digest {
	return tagged("proof", k[:], []byte{role})
}

func pointOf(t *testing.T, s api.Side) int {
	t.Helper()
	point, e := Point(s)
	if e != api.OK || group.Check(point) != api.OK {
		t.Fatal("Point", s, point, e)
	}
	return point
}

func keyOf(t *testing.T, s api.Side, peer int) api.Key {
	t.Helper()
	k, e := Shared(s, peer)
	if e != api.OK {
		t.Fatal("Shared", s, peer, e)
	}
	return k
}

func proofBy(t *testing.T, s api.Side, peer int) api.Digest {
	t.Helper()
	d, e := Proof(s, peer)
	if e != api.OK {
		t.Fatal("Proof", s, peer, e)
	}
	return d
}

func accepts(t *testing.T, s api.Side, peer int, proof api.Digest) bool {
	t.Helper()
	ok, e := Accept(s, peer, proof)
	if e != api.OK {
		t.Fatal("Accept", s, peer, e)
	}
	return ok
}

// refuse checks that all functions that get a point return ErrPake, and nothing else, also with a proof for the zero key.
func refuse(t *testing.T, s api.Side, peer int) {
	t.Helper()
	if k, e := Shared(s, peer); e != api.ErrPake || k != (api.Key{}) {
		t.Error("Shared", s, peer, k, e)
	}
	if d, e := Proof(s, peer); e != api.ErrPake || d != (api.Digest{}) {
		t.Error("Proof", s, peer, d, e)
	}
	for _, d := range []api.Digest{{}, {1}, proved(api.Key{}, 1), proved(api.Key{}, 2), proved(api.Key{}, byte(3-s.Role))} {
		if ok, e := Accept(s, peer, d); e != api.ErrPake || ok {
			t.Error("Accept", s, peer, ok, e)
		}
	}
}

// refuseSide checks that all functions refuse a side, with every point.
func refuseSide(t *testing.T, s api.Side) {
	t.Helper()
	if e := Check(s); e != api.ErrPake {
		t.Error("Check", s, e)
	}
	if point, e := Point(s); e != api.ErrPake || point != 0 {
		t.Error("Point", s, point, e)
	}
	for _, peer := range []int{1, api.G, api.P - 2, 0, 2, -1, api.P, math.MinInt} {
		refuse(t, s, peer)
	}
}

func TestCheck(t *testing.T) {
	for _, role := range []int{1, 2} {
		for _, code := range codes {
			for _, secret := range secrets(20) {
				if e := Check(api.Side{Role: role, Code: code, Secret: secret}); e != api.OK {
					t.Error(role, code, secret, e)
				}
			}
		}
	}
}

func TestSidesRefused(t *testing.T) {
	refuseSide(t, api.Side{})
	for _, code := range []int{0, 1, 999999} {
		for _, secret := range []int{1, 2, last} {
			for _, role := range noRoles {
				refuseSide(t, api.Side{Role: role, Code: code, Secret: secret})
			}
		}
	}
	for _, role := range []int{1, 2} {
		for _, code := range noCodes {
			refuseSide(t, api.Side{Role: role, Code: code, Secret: 1})
			refuseSide(t, api.Side{Role: role, Code: code, Secret: last})
			refuseSide(t, api.Side{Role: role, Code: code})
		}
		for _, secret := range noSecrets {
			refuseSide(t, api.Side{Role: role, Secret: secret})
			refuseSide(t, api.Side{Role: role, Code: 999999, Secret: secret})
		}
	}
}

// The known points, keys and proofs were calculated with another program.
func TestPointKnown(t *testing.T) {
	for i, x := range []struct {
		s    api.Side
		want int
	}{
		{api.Side{Role: 1, Code: 0, Secret: 1}, 3874860796616101624},
		{api.Side{Role: 2, Code: 0, Secret: 1}, 1335221381992764360},
		{api.Side{Role: 1, Code: 42, Secret: 5}, 348574594844760677},
		{api.Side{Role: 2, Code: 42, Secret: 7}, 3572030876139910581},
		{api.Side{Role: 1, Code: 999999, Secret: last}, 3246524628933257922},
		{api.Side{Role: 2, Code: 999999, Secret: last}, 1823548322382062108},
		{api.Side{Role: 1, Code: 123456, Secret: 1234567890123456789}, 2462873546090271899},
		{api.Side{Role: 2, Code: 1, Secret: last / 2}, 530388099846490020},
	} {
		if point := pointOf(t, x.s); point != x.want {
			t.Error(i, point)
		}
	}
}

func TestPointOfMany(t *testing.T) {
	seen := map[int]api.Side{}
	for h, g := range pairs(40) {
		for _, s := range []api.Side{h, g} {
			point := pointOf(t, s)
			if point != pointed(s) {
				t.Error(s, point)
			}
			if other, ok := seen[point]; ok && other != s {
				t.Error("equal points", s, other)
			}
			seen[point] = s
		}
	}
}

// The points of host and guest with the same code and the same secret differ by their masks.
func TestPointsOfRoles(t *testing.T) {
	if masked(1) != 4147386292762722240 || masked(2) != 896982055724109002 || raised(masked(1), hostLog) != masked(2) {
		t.Fatal("masks", masked(1), masked(2))
	}
	for _, code := range codes {
		w := passed(code)
		for _, secret := range secrets(10) {
			h, g := pointOf(t, api.Side{Role: 1, Code: code, Secret: secret}), pointOf(t, api.Side{Role: 2, Code: code, Secret: secret})
			if h == g || times(h, raised(masked(2), w)) != times(g, raised(masked(1), w)) {
				t.Error(code, secret)
			}
		}
	}
}

func TestSharedKnown(t *testing.T) {
	for i, x := range []struct {
		s          api.Side
		peer       int
		key, proof string
	}{
		{api.Side{Role: 1, Code: 0, Secret: 1}, 1, "06de93850021de980b95738d6d0341821ca8c6be4afaaaa2cc109a66329fbd43", "ea0d134c97e277771c0c9645510d5d90f6c30bc495c7659c90ee9ce6391587a4"},
		{api.Side{Role: 2, Code: 0, Secret: 1}, 1, "7c6b515164694984ad14470c638d3863a805c8db47122cff297dafe80088a33d", "2c263783f520e34c5e887c56d670013c388d25e23cf154bbb20c38564d78d583"},
		{api.Side{Role: 1, Code: 42, Secret: 5}, 3572030876139910581, "963c29b8bf767eb9170f42dd162bc9e57eee52cf47860888f0204f618099b440", "c02948d47e0a8f48753f79636420f50b80dfe8145eae9452914ddf41bd3c421e"},
		{api.Side{Role: 2, Code: 42, Secret: 7}, 348574594844760677, "963c29b8bf767eb9170f42dd162bc9e57eee52cf47860888f0204f618099b440", "0095c169e141bfab4d7222ff3fbcc7153cf4ee995c8e04f9a17df71afbd78b2b"},
		{api.Side{Role: 1, Code: 42, Secret: 5}, 348574594844760677, "19026f372b68b4d9c79a0cdc0d16f132697a6c5e09fb1df75f95c4d36b7f2a67", "9f912b25d378e3faada054bb5ec1b0f0d1abc7c60fbd7068350a0f52e8ca711e"},
		{api.Side{Role: 1, Code: 999999, Secret: last}, 4, "944c8136c74dcdcfe051d1f520111b6628f8ed44f8017085a5da625b2ab384eb", "185f9c8b886de5cdacb49e1988973058807e59f7b71b7b9ed663bd4217eac770"},
		{api.Side{Role: 2, Code: 999999, Secret: last}, api.P - 2, "8234e6796372e86c9bd33f16c9dc6efc740ed88ce4632419b60f64c903e370a6", "170fb5d0c786cbcac0f7193732120bcb13bc4b6764e553da5b2bae836bd3b5ee"},
		{api.Side{Role: 1, Code: 123456, Secret: 1234567890123456789}, 9, "0d709531890fbc032b7ecf2999b6a0fde6355626197b5122e8f1310918aa863a", "6ffa36fa0c3a61a5ae4577576f12a71205c0740bc71b14914dd28599f972bfa1"},
		{api.Side{Role: 2, Code: 7, Secret: last / 2}, 16, "c04693459d6105290651bb9829e165f2ecb8f4750105587969d49d824117f059", "ed2e262d8937f048416f483ea2c4a7f4bd2db45d0e1c5955c105472576466411"},
	} {
		k, d := keyOf(t, x.s, x.peer), proofBy(t, x.s, x.peer)
		if hex.EncodeToString(k[:]) != x.key || hex.EncodeToString(d[:]) != x.proof {
			t.Errorf("%d: %x %x", i, k, d)
		}
	}
}

// Every element is a point of the other side: whether or not anyone knows its secret, with that of the same role, and with the own one.
func TestSharedOfMany(t *testing.T) {
	l := elements(10)
	n := 0
	for h, g := range pairs(15) {
		n++
		for _, s := range []api.Side{h, g} {
			for _, peer := range []int{l[n%len(l)], 1, pointed(h), pointed(g)} {
				if k := keyOf(t, s, peer); k != sharedBy(s, peer) {
					t.Error(s, peer, k)
				}
				for role := range byte(5) {
					d := proved(sharedBy(s, peer), role)
					if (proofBy(t, s, peer) == d) != (int(role) == s.Role) {
						t.Error("Proof", s, peer, role)
					}
					if accepts(t, s, peer, d) != (int(role) == 3-s.Role) {
						t.Error("Accept", s, peer, role)
					}
				}
			}
		}
	}
}

// If the other side's point is no more than its mask, the shared element is 1, and the key that of both points and 1.
func TestSharedOne(t *testing.T) {
	for _, code := range codes {
		for _, secret := range secrets(5) {
			h, g := api.Side{Role: 1, Code: code, Secret: secret}, api.Side{Role: 2, Code: code, Secret: secret}
			mask, other := raised(masked(1), passed(code)), raised(masked(2), passed(code))
			if keyOf(t, h, other) != keyed(pointed(h), other, 1) || keyOf(t, g, mask) != keyed(mask, pointed(g), 1) {
				t.Error(code, secret)
			}
		}
	}
}

func TestPeersRefused(t *testing.T) {
	for _, role := range []int{1, 2} {
		for i, code := range codes {
			s := api.Side{Role: role, Code: code, Secret: secrets(4)[i]}
			point := pointed(api.Side{Role: 3 - role, Code: code, Secret: 9})
			for _, peer := range slices.Concat(noElements, []int{-point, api.P - point, point + api.P, point - api.P}) {
				refuse(t, s, peer)
			}
		}
	}
}

// A number is accepted as a point exactly if it is a square modulo P.
func TestPeersAreSquares(t *testing.T) {
	r := rand.New(rand.NewSource(2))
	s := api.Side{Role: 1, Code: 42, Secret: 5}
	for i := range 2000 {
		peer := i - 100
		if i > 1000 {
			peer = int(r.Uint64() >> 1)
		}
		isElement := peer > 0 && peer < api.P && big.Jacobi(number(peer), number(api.P)) == 1
		s.Role = 1 + i%2
		if k, e := Shared(s, peer); isElement && (e != api.OK || k != sharedBy(s, peer)) || !isElement && (e != api.ErrPake || k != api.Key{}) {
			t.Error(s, peer, e)
		}
	}
}

// No other bytes than those of the other role's proof are accepted.
func TestAcceptOnly(t *testing.T) {
	n := 0
	for h, g := range pairs(0) {
		if n++; n > 30 {
			break
		}
		for _, x := range [][2]api.Side{{h, g}, {g, h}} {
			s, peer := x[0], pointOf(t, x[1])
			k, right := keyOf(t, s, peer), proofBy(t, x[1], pointOf(t, s))
			for i := range 256 {
				d := right
				d[i/8] ^= 1 << (i % 8)
				if accepts(t, s, peer, d) {
					t.Error(s, peer, i)
				}
			}
			reversed := right
			slices.Reverse(reversed[:])
			for i, d := range []api.Digest{{}, reversed, api.Digest(k), proofBy(t, s, peer), tagged("proof", k[:]), tagged("proof", []byte{byte(x[1].Role)}, k[:]), tagged("pake", k[:], []byte{byte(x[1].Role)})} {
				if accepts(t, s, peer, d) {
					t.Error(s, peer, "other", i)
				}
			}
			if !accepts(t, s, peer, right) {
				t.Error(s, peer)
			}
		}
	}
}

// Sides of different roles with the same code have the same key, and accept each other's proofs, but not their own ones.
func TestExchange(t *testing.T) {
	seen := map[api.Key]api.Side{}
	for h, g := range pairs(20) {
		a, b := pointOf(t, h), pointOf(t, g)
		k := keyOf(t, h, b)
		if k != keyOf(t, g, a) || k != keyed(a, b, raised(raised(api.G, h.Secret), g.Secret)) {
			t.Error(h, g)
		}
		mine, other := proofBy(t, h, b), proofBy(t, g, a)
		if !accepts(t, h, b, other) || !accepts(t, g, a, mine) || accepts(t, h, b, mine) || accepts(t, g, a, other) {
			t.Error("proofs", h, g)
		}
		if before, ok := seen[k]; ok && before != h {
			t.Error("equal keys", before, h)
		}
		seen[k] = h
	}
}

// equalKeys checks that keys and proofs of two sides fit exactly if their shared elements are equal, and returns whether they do.
func equalKeys(t *testing.T, h, g api.Side) bool {
	t.Helper()
	a, b := pointOf(t, h), pointOf(t, g)
	equal := shared(h, b) == shared(g, a)
	if equal != (agreed(h, b) == agreed(g, a)) || equal != (keyOf(t, h, b) == keyOf(t, g, a)) {
		t.Error("key", h, g)
	}
	if equal != accepts(t, h, b, proofBy(t, g, a)) || equal != accepts(t, g, a, proofBy(t, h, b)) {
		t.Error("proofs", h, g)
	}
	return equal
}

// condition returns whether the powers of the masks are equal that the chapter names for sides with different codes.
func condition(h, g api.Side) bool {
	difference := passed(g.Code) - passed(h.Code)
	return raised(masked(2), timesQ(difference, h.Secret)) == raised(masked(1), timesQ(-difference, g.Secret))
}

func TestDifferentCodes(t *testing.T) {
	n := 0
	for h, g := range pairs(10) {
		n++
		for _, code := range []int{(h.Code + 1) % 1000000, 999999 - h.Code, codes[n%len(codes)]} {
			g.Code = code
			if equalKeys(t, h, g) != condition(h, g) || condition(h, g) != (h.Code == code) {
				t.Error(h, g)
			}
		}
	}
}

// With secrets whose powers of the masks are inverses, sides with any codes have the same key; with neighbours of these secrets they have not.
func TestDifferentCodesWithEqualKeys(t *testing.T) {
	for i, secret := range secrets(10) {
		h := api.Side{Role: 1, Code: codes[i%len(codes)], Secret: secret}
		g := api.Side{Role: 2, Secret: timesQ(-hostLog, secret)}
		for _, g.Code = range codes {
			if !condition(h, g) || !equalKeys(t, h, g) {
				t.Error(h, g)
			}
			near := g
			near.Secret = g.Secret%last + 1
			if equalKeys(t, h, near) != (g.Code == h.Code) || condition(h, near) != (g.Code == h.Code) {
				t.Error(h, near)
			}
			near.Secret = api.Q - g.Secret
			if equalKeys(t, h, near) != (g.Code == h.Code) || condition(h, near) != (g.Code == h.Code) {
				t.Error(h, near)
			}
		}
	}
}

// Whoever is between both sides and replaces a point is noticed.
func TestReplacedPoints(t *testing.T) {
	n := 0
	for h, g := range pairs(10) {
		if n++; n > 60 {
			break
		}
		a, b := pointOf(t, h), pointOf(t, g)
		for _, peer := range []int{1, api.G, a, times(b, api.G), raised(b, 2), raised(b, -1), pointed(api.Side{Role: 2, Code: g.Code, Secret: g.Secret%last + 1})} {
			if keyOf(t, h, peer) == keyOf(t, g, a) || accepts(t, h, peer, proofBy(t, g, a)) || accepts(t, g, a, proofBy(t, h, peer)) {
				t.Error(h, g, peer)
			}
		}
	}
}

func TestBytes(t *testing.T) {
	if b := bytesOf(0x0102030405060708, 1, api.P); hex.EncodeToString(b) != "010203040506070800000000000000013fffffffffffd6bb" {
		t.Errorf("%x", b)
	}
	if len(bytesOf()) != 0 {
		t.Error("no numbers")
	}
}

func TestEqualCalls(t *testing.T) {
	s := api.Side{Role: 1, Code: 42, Secret: 5}
	point, k, d := pointOf(t, s), keyOf(t, s, 4), proofBy(t, s, 4)
	for range 5 {
		keyOf(t, api.Side{Role: 2, Code: 7, Secret: 9}, 16)
		if pointOf(t, s) != point || keyOf(t, s, 4) != k || proofBy(t, s, 4) != d {
			t.Error("another result")
		}
	}
}

func FuzzPake(f *testing.F) {
	f.Add(1, 42, 5, 4, []byte{})
	f.Add(2, 999999, last, 1, []byte{1})
	f.Add(0, -1, 0, 2, []byte{2})
	f.Add(3, 1000000, api.Q, api.P, make([]byte, 32))
	f.Fuzz(func(t *testing.T, role, code, secret, peer int, proof []byte) {
		s := api.Side{Role: role, Code: code, Secret: secret}
		if role < 1 || role > 2 || code < 0 || code > 999999 || secret < 1 || secret > last {
			refuseSide(t, s)
			refuse(t, s, peer)
			return
		}
		if Check(s) != api.OK || pointOf(t, s) != pointed(s) {
			t.Error(s)
		}
		if group.Check(peer) != api.OK {
			refuse(t, s, peer)
			return
		}
		var d api.Digest
		copy(d[:], proof)
		right := proved(sharedBy(s, peer), byte(3-role))
		if keyOf(t, s, peer) != sharedBy(s, peer) || accepts(t, s, peer, d) != (d == right) || !accepts(t, s, peer, right) {
			t.Error(s, peer)
		}
		g := api.Side{Role: 3 - role, Code: code, Secret: 1 + (peer-1)%last}
		if keyOf(t, s, pointOf(t, g)) != keyOf(t, g, pointOf(t, s)) {
			t.Error(s, g)
		}
	})
}
