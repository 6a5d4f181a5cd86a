package sign

import (
	"bytes"
	"crypto/sha256"
	"encoding/binary"
	"math"
	"math/big"
	"math/rand"
	"slices"
	"testing"

	"chartroom/api"
	"chartroom/field"
	"chartroom/group"
)

const last = api.Q - 1 // the greatest private key

var noPrivates = []int{0, -1, -2, -last, -api.Q, -api.Q - 1, math.MinInt, math.MinInt + 1, api.Q, api.Q + 1, 2*api.Q - 1, 2 * api.Q, api.P, api.P + 1, 1 << 62, math.MaxInt - 1, math.MaxInt}

var noElements = []int{0, -1, -2, -4, -api.P, 4 - api.P, math.MinInt, api.P, api.P + 1, api.P + 4, 2 * api.P, math.MaxInt, 2, 6, 7, 8, api.P - 1, api.P - 3, api.P - 4}

// privates returns the private keys at the ends and in the middle, and n others by a rule.
func privates(n int) []int {
	l := []int{1, 2, 3, 255, 256, 1 << 60, last / 2, last/2 + 1, last - 1, last}
	r := rand.New(rand.NewSource(int64(n)))
	for range n {
		l = append(l, 1+r.Intn(last))
	}
	return l
}

// messages returns messages whose lengths are 0, 1, near the ends of the blocks of the hash, and greater.
func messages() [][]byte {
	l := [][]byte{nil, {}, {0}, {255}, []byte("a"), []byte("message"), []byte("sign"), []byte("nonce")}
	for _, n := range []int{2, 7, 8, 9, 15, 16, 31, 32, 38, 39, 40, 47, 48, 55, 56, 63, 64, 65, 1000} {
		m := make([]byte, n)
		for i := range m {
			m[i] = byte(i * n)
		}
		l = append(l, m)
	}
	return l
}

func number(a int) *big.Int { return big.NewInt(int64(a)) }

func raised(a, k int) int {
	return int(new(big.Int).Exp(number(a), number(k), number(api.P)).Int64())
}

// line returns the sum of k and the product of h and x modulo Q.
func line(k, h, x int) int {
	s := new(big.Int).Mul(number(h), number(x))
	s.Add(s, number(k))
	return int(s.Mod(s, number(api.Q)).Int64())
}

// hashed returns the scalar of a tag, numbers and a message, by the hash of the test library.
func hashed(tag string, message []byte, numbers ...int) int {
	prefix := sha256.Sum256([]byte(tag))
	b := prefix[:]
	for _, n := range numbers {
		b = binary.BigEndian.AppendUint64(b, uint64(n))
	}
	d := sha256.Sum256(append(b, message...))
	n := new(big.Int).SetBytes(d[:])
	return 1 + int(n.Mod(n, number(api.Q-1)).Int64())
}

// challenged returns the challenge of a public key, R and a message.
func challenged(public, r int, message []byte) int { return hashed("sign", message, r, public) }

// signed returns the signature with a certain nonce.
func signed(private, k int, message []byte) api.Signature {
	r := raised(api.G, k)
	return api.Signature{R: r, S: line(k, challenged(raised(api.G, private), r, message), private)}
}

func publicOf(t *testing.T, private int) int {
	t.Helper()
	public, e := Public(private)
	if e != api.OK {
		t.Fatal(private, e)
	}
	return public
}

func signatureOf(t *testing.T, private int, message []byte) api.Signature {
	t.Helper()
	s, e := Sign(private, message)
	if e != api.OK {
		t.Fatal(private, e)
	}
	return s
}

// The known public keys and signatures were calculated with another program.
func TestPublicKnown(t *testing.T) {
	for private, want := range map[int]int{
		1: api.G, 2: 16, 3: 64, 5: 1024,
		255:                 3280708720536523467,
		256:                 3899462845291339190,
		1000000007:          3790408796427652416,
		1234567890123456789: 3715551392808720830,
		last / 2:            api.Q,
		last/2 + 1:          4611686018427377337,
		last - 1:            3746994889972244088,
		last:                1152921504606844335,
	} {
		if public := publicOf(t, private); public != want {
			t.Error(private, public)
		}
	}
}

func TestPublicOfMany(t *testing.T) {
	seen := map[int]bool{}
	for _, private := range privates(300) {
		public := publicOf(t, private)
		if public != raised(api.G, private) || group.Check(public) != api.OK || public == 1 || seen[public] {
			t.Error(private, public)
		}
		seen[public] = true
	}
}

func TestNoPrivates(t *testing.T) {
	for _, private := range noPrivates {
		if public, e := Public(private); public != 0 || e != api.ErrKey {
			t.Error(private, public, e)
		}
		for _, m := range messages() {
			if s, e := Sign(private, m); s != (api.Signature{}) || e != api.ErrKey {
				t.Error(private, m, s, e)
			}
		}
	}
}

func TestSignKnown(t *testing.T) {
	var all []byte
	for i := range 256 {
		all = append(all, byte(i))
	}
	for i, x := range []struct {
		private int
		message []byte
		r, s    int
	}{
		{1, nil, 1803960003439416986, 2157386489950014917},
		{1, []byte{}, 1803960003439416986, 2157386489950014917},
		{1, []byte("a"), 24226182111125412, 1045393149118632251},
		{2, nil, 4063358832216586048, 1968388052972662452},
		{2, []byte{0}, 3957726362408281565, 823959884726656081},
		{5, []byte("message"), 1001972748474743116, 1145256759484515858},
		{255, []byte("a longer message"), 2967933505990331252, 854033399311624177},
		{12345, make([]byte, 64), 1511452482238570970, 213066097434050011},
		{1000000007, all, 2785052423005181751, 1179388577413772014},
		{1234567890123456789, slices.Repeat([]byte{255}, 1000), 2163430356655429701, 154412921975017031},
		{last / 2, []byte("abc"), 3907221295838192616, 1307642436241008423},
		{last, nil, 1604533777156451282, 1083365506217371785},
		{last, []byte("sign"), 2363764736684538697, 1258940273943996611},
	} {
		if s := signatureOf(t, x.private, x.message); s.R != x.r || s.S != x.s {
			t.Error(i, s)
		}
	}
}

func TestSignOfMany(t *testing.T) {
	for _, private := range privates(30) {
		public := publicOf(t, private)
		for _, m := range messages() {
			s := signatureOf(t, private, m)
			if s != signed(private, hashed("nonce", m, private), m) {
				t.Error(private, m, s)
			}
			if s != signatureOf(t, private, bytes.Clone(m)) {
				t.Error(private, m, "is signed in two ways")
			}
			if !Verify(public, m, s) {
				t.Error(private, m, "is not accepted")
			}
		}
	}
}

// The nonce differs from key to key and from message to message, so that no R occurs twice.
func TestNoncesDiffer(t *testing.T) {
	seen := map[int]bool{}
	for _, private := range privates(30) {
		for _, m := range messages()[1:] {
			s := signatureOf(t, private, m)
			if seen[s.R] {
				t.Error(private, m)
			}
			seen[s.R] = true
		}
	}
}

func TestLongMessage(t *testing.T) {
	m := make([]byte, 1<<20)
	s := signatureOf(t, 7, m)
	if s != signed(7, hashed("nonce", m, 7), m) || !Verify(publicOf(t, 7), m, s) {
		t.Error(s)
	}
	m[len(m)-1] = 1
	if Verify(publicOf(t, 7), m, s) {
		t.Error("another message")
	}
}

// The bytes behind a message stay as they are.
func TestArgumentsStay(t *testing.T) {
	room := slices.Repeat([]byte{7}, 200)
	s := signatureOf(t, 5, room[:10])
	if s != signatureOf(t, 5, room[190:]) || !Verify(publicOf(t, 5), room[:10], s) {
		t.Error("equal messages lead to different results")
	}
	if !slices.Equal(room, slices.Repeat([]byte{7}, 200)) {
		t.Error("an argument was changed")
	}
}

// A signature with any nonce is accepted, also with 0, whose R is 1.
func TestVerifyAnyNonce(t *testing.T) {
	for _, private := range privates(5) {
		public := raised(api.G, private)
		for _, m := range messages() {
			for _, k := range []int{0, 1, 2, last / 2, last, private, api.Q - private} {
				if !Verify(public, m, signed(private, k, m)) {
					t.Error(private, m, k)
				}
			}
		}
	}
}

// Under the public key 1, which belongs to no private key, S is the exponent of R, for each message. So this S can be 0 and Q - 1.
func TestVerifyPublicOne(t *testing.T) {
	for _, m := range messages() {
		for _, k := range []int{0, 1, 2, 9, last / 2, last - 1, last} {
			r := raised(api.G, k)
			if !Verify(1, m, api.Signature{R: r, S: k}) {
				t.Error(m, k)
			}
			for _, s := range []int{k + 1, k - 1, k + api.Q, k - api.Q, last - k, math.MinInt, math.MaxInt} {
				if s != k && Verify(1, m, api.Signature{R: r, S: s}) {
					t.Error(m, k, s)
				}
			}
		}
	}
}

// For each public key, message and R there is exactly one S: no other scalar is accepted, and no number that equals it modulo Q.
func TestOneS(t *testing.T) {
	random := rand.New(rand.NewSource(5))
	for _, private := range privates(5) {
		public := raised(api.G, private)
		for _, m := range messages() {
			s := signed(private, random.Intn(api.Q), m)
			if !Verify(public, m, s) {
				t.Error(private, m, s)
			}
			others := []int{s.S - 1, s.S + 1, s.S ^ 1<<60, s.S ^ 1<<61, s.S - api.Q, s.S + api.Q, s.S + 2*api.Q, -s.S, api.Q - s.S, 0, last, -1, api.Q, math.MinInt, math.MaxInt}
			for range 5 {
				others = append(others, random.Intn(api.Q))
			}
			for _, other := range others {
				if other != s.S && Verify(public, m, api.Signature{R: s.R, S: other}) {
					t.Error(private, m, s, other)
				}
			}
		}
	}
}

// Of all S near the right one, also across 0, only this one is accepted.
func TestAllNear(t *testing.T) {
	m := []byte("near")
	for k := range 20 {
		right := signed(3, k, m)
		for i := -20; i <= 20; i++ {
			s := api.Signature{R: right.R, S: (right.S + i + api.Q) % api.Q}
			if Verify(64, m, s) != (i == 0) {
				t.Error(k, i)
			}
			s = api.Signature{R: raised(api.G, k), S: (k + i + api.Q) % api.Q}
			if Verify(1, m, s) != (i == 0) {
				t.Error("public key 1", k, i)
			}
		}
	}
}

// Another message, public key or R has another challenge.
func TestVerifyOthers(t *testing.T) {
	for _, private := range privates(3) {
		public := publicOf(t, private)
		for _, m := range messages() {
			s := signatureOf(t, private, m)
			longer := append(bytes.Clone(m), 0)
			others := [][]byte{longer, append([]byte{0}, m...), append(bytes.Clone(m), m...), []byte("another")}
			if len(m) > 0 {
				others = append(others, nil, m[1:], m[:len(m)-1])
			}
			for i := range 8 * len(m[:min(len(m), 40)]) {
				flipped := bytes.Clone(m)
				flipped[i/8] ^= 1 << (i % 8)
				others = append(others, flipped)
			}
			for _, other := range others {
				if !bytes.Equal(m, other) && Verify(public, other, s) {
					t.Error(private, m, other)
				}
			}
			for _, other := range []int{1, 4, 16, raised(public, 2), raised(public, last), s.R} {
				if other != public && Verify(other, m, s) {
					t.Error("public key", private, m, other)
				}
				if other != s.R && Verify(public, m, api.Signature{R: other, S: s.S}) {
					t.Error("R", private, m, other)
				}
			}
			if s.S != s.R && Verify(public, m, api.Signature{R: s.S, S: s.R}) {
				t.Error("exchanged", private, m)
			}
		}
	}
}

func TestNoElements(t *testing.T) {
	for _, m := range messages() {
		s := signatureOf(t, 5, m)
		for _, a := range slices.Concat(noElements, []int{api.P - 1024, 1024 + api.P, 1024 - api.P}) {
			if Verify(a, m, s) || Verify(a, m, api.Signature{}) || Verify(a, m, api.Signature{R: 1}) {
				t.Error("public key", a, m)
			}
		}
		for _, a := range slices.Concat(noElements, []int{api.P - s.R, s.R + api.P, s.R - api.P}) {
			for _, x := range []int{0, 1, 4, s.S, last} {
				if Verify(1024, m, api.Signature{R: a, S: x}) || Verify(1, m, api.Signature{R: a, S: x}) || Verify(a, m, api.Signature{R: a, S: x}) {
					t.Error("R", a, x, m)
				}
			}
		}
	}
}

// The equation would hold for numbers that are no elements: for P - y instead of y with an even challenge, for both with an odd one, and for those that differ by P.
func TestBalancedButNoElements(t *testing.T) {
	const private, tries = 77, 60
	public := raised(api.G, private)
	even, odd := 0, 0
	for k := 1; k <= tries; k++ {
		m := []byte{byte(k)}
		r := raised(api.G, k)
		forge := func(y, r int) bool {
			return Verify(y, m, api.Signature{R: r, S: line(k, challenged(y, r, m), private)})
		}
		if !forge(public, r) {
			t.Error("right", k)
		}
		if challenged(api.P-public, r, m)%2 == 0 {
			even++
		}
		if challenged(api.P-public, api.P-r, m)%2 == 1 {
			odd++
		}
		for _, y := range []int{public, api.P - public, public + api.P, public - api.P, -public} {
			for _, x := range []int{r, api.P - r, r + api.P, r - api.P, -r} {
				if (y != public || x != r) && forge(y, x) {
					t.Error(k, y, x)
				}
			}
		}
	}
	if even < 10 || odd < 10 {
		t.Error("too few such challenges", even, odd)
	}
}

// The examples of the chapter, and other zero values.
func TestVerifyNothing(t *testing.T) {
	for _, m := range messages() {
		if Verify(0, m, api.Signature{}) || Verify(api.G, m, api.Signature{}) || Verify(api.G, m, api.Signature{R: api.G, S: api.Q}) || Verify(api.G, m, api.Signature{S: 1}) || Verify(0, m, api.Signature{R: 1}) {
			t.Error(m)
		}
	}
}

// scalars returns a function that takes the results of a call of field, which must be no error.
func scalars(t *testing.T) func(c int, e api.Errno) int {
	return func(c int, e api.Errno) int {
		t.Helper()
		if e != api.OK {
			t.Fatal(e)
		}
		return c
	}
}

// The S of two signatures of a private key differ by the difference of the nonces and by the product of the private key and the difference of the challenges.
func TestDifferences(t *testing.T) {
	ok := scalars(t)
	for _, private := range privates(5) {
		public := publicOf(t, private)
		for _, m := range messages() {
			for _, n := range messages() {
				s, u := signatureOf(t, private, m), signatureOf(t, private, n)
				nonces := ok(field.Sub(hashed("nonce", m, private), hashed("nonce", n, private)))
				challenges := ok(field.Sub(challenged(public, s.R, m), challenged(public, u.R, n)))
				if ok(field.Sub(s.S, u.S)) != ok(field.Add(nonces, ok(field.Mul(private, challenges)))) {
					t.Error(private, m, n)
				}
			}
		}
	}
}

// Two accepted signatures with one R and different challenges tell the private key.
func TestOneRTellsThePrivateKey(t *testing.T) {
	ok := scalars(t)
	for _, private := range privates(10) {
		public := publicOf(t, private)
		for i, m := range messages()[2:] {
			own, other := signatureOf(t, private, m), []byte{1, 2, byte(i)}
			again := signed(private, hashed("nonce", m, private), other)
			if own.R != again.R || !Verify(public, other, again) {
				t.Fatal(private, m, again)
			}
			challenges := ok(field.Sub(challenged(public, own.R, m), challenged(public, own.R, other)))
			told := ok(field.Mul(ok(field.Sub(own.S, again.S)), ok(field.Inv(challenges))))
			if told != private {
				t.Error(private, m, told)
			}
		}
	}
}

func FuzzSign(f *testing.F) {
	f.Add(1, []byte{}, 4, 0)
	f.Add(last, []byte("message"), api.P-4, last)
	f.Add(0, []byte{255}, 0, -1)
	f.Add(api.Q, []byte{0}, math.MinInt, api.Q)
	f.Fuzz(func(t *testing.T, private int, message []byte, r, x int) {
		if private < 1 || private > last {
			if _, e := Sign(private, message); e != api.ErrKey {
				t.Fatal(private, e)
			}
			Verify(private, message, api.Signature{R: r, S: x})
			return
		}
		public := publicOf(t, private)
		s := signatureOf(t, private, message)
		if s != signed(private, hashed("nonce", message, private), message) || !Verify(public, message, s) {
			t.Error(private, message, s)
		}
		forged := api.Signature{R: r, S: x}
		balanced := group.Check(r) == api.OK && x >= 0 && x < api.Q
		if balanced {
			right := new(big.Int).Mul(number(r), number(raised(public, challenged(public, r, message))))
			balanced = int(right.Mod(right, number(api.P)).Int64()) == raised(api.G, x)
		}
		if Verify(public, message, forged) != balanced {
			t.Error(private, message, forged)
		}
	})
}
