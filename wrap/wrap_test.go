package wrap

import (
	"bytes"
	"crypto/sha256"
	"encoding/binary"
	"encoding/hex"
	"math"
	"math/big"
	"math/rand"
	"strings"
	"testing"

	"chartroom/api"
	"chartroom/cipher"
)

const last = api.Q - 1 // the greatest private key

const sunscreen = "Ladies and Gentlemen of the class of 99, a body of more than one block of the cipher"

var noPrivates = []int{0, -1, -2, -last, -api.Q, -api.Q - 1, math.MinInt, math.MinInt + 1, api.Q, api.Q + 1, 2*api.Q - 1, 2 * api.Q, api.P, api.P + 1, 1 << 62, math.MaxInt - 1, math.MaxInt}

var noElements = []int{0, -1, -2, -4, -api.P, 4 - api.P, math.MinInt, api.P, api.P + 1, api.P + 4, 2 * api.P, math.MaxInt, 2, 6, 7, 8, api.P - 1, api.P - 3, api.P - 4}

// counting returns the key with the bytes 0, 1 .. 31.
func counting() (k api.Key) {
	for i := range k {
		k[i] = byte(i)
	}
	return k
}

// full returns the key whose bits are all 1.
func full() (k api.Key) {
	for i := range k {
		k[i] = 255
	}
	return k
}

// noise returns n bytes, by a rule.
func noise(n int) []byte {
	b := make([]byte, n)
	rand.New(rand.NewSource(int64(n))).Read(b)
	return b
}

// flipped returns bytes of which the bit i is another one.
func flipped(b []byte, i int) []byte {
	f := bytes.Clone(b)
	f[i/8] ^= 1 << (i % 8)
	return f
}

// privates returns the private keys at the ends and in the middle, and n others by a rule.
func privates(n int) []int {
	l := []int{1, 2, 3, 255, 256, 1 << 60, last / 2, last/2 + 1, last - 1, last}
	r := rand.New(rand.NewSource(int64(n)))
	for range n {
		l = append(l, 1+r.Intn(last))
	}
	return l
}

// tagged returns the hash of parts under a tag, by the hash of the test library.
func tagged(tag string, parts ...[]byte) (d [32]byte) {
	first := sha256.Sum256([]byte(tag))
	return sha256.Sum256(append(first[:], bytes.Join(parts, nil)...))
}

// raised returns a power modulo P.
func raised(a, k int) int {
	return int(new(big.Int).Exp(big.NewInt(int64(a)), big.NewInt(int64(k)), big.NewInt(api.P)).Int64())
}

// isElement reports whether a number is a square modulo P, and not 0.
func isElement(a int) bool {
	return a > 0 && a < api.P && big.Jacobi(big.NewInt(int64(a)), big.NewInt(api.P)) == 1
}

// drawn returns the exponent that a seed leads to, without derive.
func drawn(seed api.Key) int {
	k := tagged("derive", seed[:], []byte{3, 1, 2, 4}, []byte("wrap"))
	d := tagged("scalar", k[:])
	n := new(big.Int).SetBytes(d[:])
	return 1 + int(n.Mod(n, big.NewInt(api.Q-1)).Int64())
}

// joined returns the key of a wrap.
func joined(public, u, v int) api.Key {
	b := binary.BigEndian.AppendUint64(nil, uint64(public))
	b = binary.BigEndian.AppendUint64(b, uint64(u))
	return tagged("wrap", binary.BigEndian.AppendUint64(b, uint64(v)))
}

// sealed returns the ciphertext under a key and the zero nonce. Its tag is that of the hash of the test library.
func sealed(k api.Key, head, body []byte) []byte {
	c, e := cipher.Stream(k, api.Nonce{}, body)
	if e != api.OK {
		panic(e)
	}
	return closed(k, head, c)
}

// closed returns bytes and their tag under a key, the zero nonce and a head.
func closed(k api.Key, head, c []byte) []byte {
	d := tagged("tag", k[:], make([]byte, 12), binary.BigEndian.AppendUint64(nil, uint64(len(head))), head, c)
	return append(bytes.Clone(c), d[:16]...)
}

// wrapped returns what Wrap should return.
func wrapped(public int, seed api.Key, head, body []byte) api.Wrap {
	r := drawn(seed)
	u := raised(api.G, r)
	return api.Wrap{U: u, Body: sealed(joined(public, u, raised(public, r)), head, body)}
}

func isSame(a, b api.Wrap) bool {
	return a.U == b.U && bytes.Equal(a.Body, b.Body)
}

func isZero(w api.Wrap) bool {
	return isSame(w, api.Wrap{})
}

func wrapOf(t *testing.T, public int, seed api.Key, head, body []byte) api.Wrap {
	t.Helper()
	w, e := Wrap(public, seed, head, body)
	if e != api.OK || Check(w) != api.OK || len(w.Body) != len(body)+16 {
		t.Fatal("Wrap", public, len(head), len(body), w.U, e)
	}
	return w
}

func bodyOf(t *testing.T, private int, head []byte, w api.Wrap) []byte {
	t.Helper()
	body, e := Unwrap(private, head, w)
	if e != api.OK || len(body) != len(w.Body)-16 {
		t.Fatal("Unwrap", private, len(head), w.U, len(w.Body), e)
	}
	return body
}

// refuse checks that Unwrap returns an error, and no bytes.
func refuse(t *testing.T, want api.Errno, private int, head []byte, w api.Wrap) {
	t.Helper()
	if body, e := Unwrap(private, head, w); e != want || len(body) != 0 {
		t.Error("Unwrap", private, len(head), w.U, len(w.Body), len(body), e)
	}
}

// The known wraps were calculated with another program.
func TestKnown(t *testing.T) {
	for i, x := range []struct {
		private    int
		seed       api.Key
		head, body string
		u          int
		want       string
	}{
		{1, api.Key{}, "", "", 4066938583817711720, "4c27f4fed8902a3d5931c6317f3c5da9"},
		{5, api.Key{}, "head", "body", 4066938583817711720, "a8ba167142b346b36db69d5d0c88ec3ed4d40f2c"},
		{5, counting(), "head", "body", 2231333853605783103, "4bfe3ab212b64629a08a46b22300e2317f489bea"},
		{last, full(), "", "a", 2060193077246609278, "b6aba49a82f9df004ef05ef58639c9debd"},
		{1, api.Key{5}, "head", "", 2012011863686090423, "e6173543024fae0d43205ca038dd655d"},
		{1234567890123456789, counting(), strings.Repeat("h", 100), sunscreen, 2231333853605783103, "62e86af4658b324a752804cb10c9085faf1a9b1c1cabdcd2894406421a6638ad71878381b790d436b97e7ef4431a1e6efd36d0106396aa83a08579cbc1c45e483007738a922aff110f0c08f7e6780908f7e19181786f1eaf04a76ece716e6cfb8a5582b7"},
	} {
		w := wrapOf(t, raised(api.G, x.private), x.seed, []byte(x.head), []byte(x.body))
		if w.U != x.u || hex.EncodeToString(w.Body) != x.want {
			t.Errorf("%d: %d %x", i, w.U, w.Body)
		}
		c, err := hex.DecodeString(x.want)
		if err != nil {
			t.Fatal(err)
		}
		if body := bodyOf(t, x.private, []byte(x.head), api.Wrap{U: x.u, Body: c}); string(body) != x.body {
			t.Errorf("%d: %q", i, body)
		}
	}
	w := wrapOf(t, 1024, counting(), []byte("h"), make([]byte, api.MaxPlain))
	if d := sha256.Sum256(w.Body); hex.EncodeToString(d[:]) != "f34fe68b8d8eb13f68aa021863672a35de70f4bd44036c84c99b92f8a6a19e50" {
		t.Errorf("%x", d)
	}
}

// The element 1, of which no private key is known, is a public key as well as others.
func TestWrapForOne(t *testing.T) {
	w := wrapOf(t, 1, api.Key{}, nil, nil)
	if w.U != 4066938583817711720 || hex.EncodeToString(w.Body) != "7b83f7a76dc3afc10535c3477ccca2c2" {
		t.Errorf("%d %x", w.U, w.Body)
	}
	for n := range 70 {
		if w := wrapOf(t, 1, counting(), noise(n), noise(2*n)); !isSame(w, wrapped(1, counting(), noise(n), noise(2*n))) {
			t.Error(n)
		}
	}
}

func TestWrapOfMany(t *testing.T) {
	for i, private := range privates(100) {
		public := raised(api.G, private)
		for j, seed := range []api.Key{{}, {31: 1}, {byte(i), 1}, counting(), full()} {
			head, body := noise((7*i+j)%90), noise(11*i+64*j)
			w := wrapOf(t, public, seed, head, body)
			if !isSame(w, wrapped(public, seed, head, body)) {
				t.Error(private, j)
			}
			if !bytes.Equal(bodyOf(t, private, head, w), body) {
				t.Error(private, j)
			}
		}
	}
}

// Squares of which no private key is known.
func TestWrapOfElements(t *testing.T) {
	r := rand.New(rand.NewSource(1))
	for range 200 {
		public := raised(1+r.Intn(api.P-1), 2)
		if w := wrapOf(t, public, counting(), []byte("h"), noise(9)); !isSame(w, wrapped(public, counting(), []byte("h"), noise(9))) {
			t.Error(public)
		}
	}
}

func TestWrapOfLengths(t *testing.T) {
	for _, n := range []int{0, 1, 15, 16, 17, 63, 64, 65, 127, 128, 129, 4096, 65471, 65472, 65473, 65535, 65536} {
		for _, m := range []int{0, 1, 64, 70000} {
			head, body := noise(m), noise(n)
			w := wrapOf(t, 1024, api.Key{7}, head, body)
			if !isSame(w, wrapped(1024, api.Key{7}, head, body)) || !bytes.Equal(bodyOf(t, 5, head, w), body) {
				t.Error(n, m)
			}
		}
	}
}

func TestWrapRefuses(t *testing.T) {
	bodies := [][]byte{nil, []byte("body"), noise(65536), noise(65537), noise(65552), noise(100000)}
	for _, body := range bodies {
		for _, public := range noElements {
			if w, e := Wrap(public, counting(), []byte("head"), body); e != api.ErrKey || !isZero(w) {
				t.Error(public, len(body), w.U, len(w.Body), e)
			}
		}
	}
	for _, public := range []int{1, api.G, 16, 1024, api.P - 2, api.Q, 1152921504606844335} {
		for _, body := range bodies {
			w, e := Wrap(public, counting(), []byte("head"), body)
			if len(body) <= 65536 && (e != api.OK || isZero(w)) || len(body) > 65536 && (e != api.ErrCipher || !isZero(w)) {
				t.Error(public, len(body), w.U, len(w.Body), e)
			}
		}
	}
}

// A number is a public key exactly if it is a square.
func TestWrapOfSquares(t *testing.T) {
	r := rand.New(rand.NewSource(2))
	for i := range 2000 {
		public := i - 100
		if i > 1000 {
			public = int(r.Uint64() >> 1)
		}
		if _, e := Wrap(public, api.Key{}, nil, nil); (e == api.OK) != isElement(public) {
			t.Error("Wrap", public, e)
		}
		if e := Check(api.Wrap{U: public, Body: noise(16)}); (e == api.OK) != isElement(public) {
			t.Error("Check", public, e)
		}
	}
}

func TestCheck(t *testing.T) {
	for _, u := range []int{1, 4, 16, 1024, api.P - 2, api.Q} {
		for n, want := range map[int]api.Errno{
			0: api.ErrWrap, 1: api.ErrWrap, 14: api.ErrWrap, 15: api.ErrWrap, 65553: api.ErrWrap, 65554: api.ErrWrap, 200000: api.ErrWrap,
			16: api.OK, 17: api.OK, 32: api.OK, 65535: api.OK, 65536: api.OK, 65537: api.OK, 65551: api.OK, 65552: api.OK,
		} {
			if e := Check(api.Wrap{U: u, Body: make([]byte, n)}); e != want {
				t.Error(u, n, e)
			}
		}
	}
	for _, u := range noElements {
		for _, n := range []int{0, 15, 16, 65552, 65553} {
			if e := Check(api.Wrap{U: u, Body: make([]byte, n)}); e != api.ErrWrap {
				t.Error(u, n, e)
			}
		}
	}
	if e := Check(api.Wrap{}); e != api.ErrWrap {
		t.Error(e)
	}
}

func TestUnwrapRefuses(t *testing.T) {
	w := wrapOf(t, 1024, counting(), []byte("head"), []byte("body"))
	var bad []api.Wrap
	for _, u := range noElements {
		bad = append(bad, api.Wrap{U: u, Body: w.Body}, api.Wrap{U: u})
	}
	for _, n := range []int{0, 1, 15, 65553, 65554, 100000} {
		bad = append(bad, api.Wrap{U: w.U, Body: make([]byte, n)})
	}
	bad = append(bad, api.Wrap{}, api.Wrap{U: w.U, Body: w.Body[:15]})
	for _, private := range noPrivates {
		for _, x := range append(bad, w) {
			refuse(t, api.ErrKey, private, []byte("head"), x)
		}
	}
	for _, private := range []int{1, 5, last} {
		for _, x := range bad {
			refuse(t, api.ErrWrap, private, []byte("head"), x)
		}
	}
}

// Whatever is changed leads to another key or another tag.
func TestUnwrapNotices(t *testing.T) {
	head, body := []byte("head"), []byte("body")
	w := wrapOf(t, 1024, counting(), head, body)
	for i := range 8 * len(w.Body) {
		refuse(t, api.ErrCipher, 5, head, api.Wrap{U: w.U, Body: flipped(w.Body, i)})
	}
	for i := range 8 * len(head) {
		refuse(t, api.ErrCipher, 5, flipped(head, i), w)
	}
	for _, x := range []string{"", "h", "hea", "head\x00", "\x00head", "headbody", "Head"} {
		refuse(t, api.ErrCipher, 5, []byte(x), w)
	}
	for _, private := range privates(50) {
		refuse(t, api.ErrCipher, private, head, w)
		refuse(t, api.ErrCipher, 5, head, api.Wrap{U: raised(api.G, private), Body: w.Body})
	}
	refuse(t, api.ErrCipher, 5, head, api.Wrap{U: 1, Body: w.Body})
	refuse(t, api.ErrCipher, api.Q-5, head, w)
	for n := 16; n < len(w.Body); n++ {
		refuse(t, api.ErrCipher, 5, head, api.Wrap{U: w.U, Body: w.Body[:n]})
	}
	refuse(t, api.ErrCipher, 5, head, api.Wrap{U: w.U, Body: append(bytes.Clone(w.Body), 0)})
	refuse(t, api.ErrCipher, 5, head, api.Wrap{U: w.U, Body: append([]byte{0}, w.Body...)})
}

// Any bytes with their tag are unwrapped, with any element as U, whether or not anyone has a seed for it; with another tag they are not.
func TestUnwrapExactly(t *testing.T) {
	r := rand.New(rand.NewSource(3))
	for i, private := range privates(30) {
		public := raised(api.G, private)
		for _, u := range []int{1, api.G, public, api.Q, raised(1+r.Intn(api.P-1), 2)} {
			k, head, c := joined(public, u, raised(u, private)), noise(i), noise(3*i)
			w := api.Wrap{U: u, Body: closed(k, head, c)}
			want, e := cipher.Stream(k, api.Nonce{}, c)
			if e != api.OK || !bytes.Equal(bodyOf(t, private, head, w), want) {
				t.Error(private, u)
			}
			for bit := 8 * len(c); bit < 8*len(w.Body); bit += 1 + i {
				refuse(t, api.ErrCipher, private, head, api.Wrap{U: u, Body: flipped(w.Body, bit)})
			}
			if exchanged := joined(public, raised(u, private), u); exchanged != k {
				refuse(t, api.ErrCipher, private, head, api.Wrap{U: u, Body: closed(exchanged, head, c)})
			}
			refuse(t, api.ErrCipher, private, head, api.Wrap{U: u, Body: noise(16 + i)})
		}
	}
	k := joined(1024, 4, 1024)
	for _, n := range []int{0, 1, 65535, 65536} {
		if body := bodyOf(t, 5, nil, api.Wrap{U: 4, Body: sealed(k, nil, noise(n))}); !bytes.Equal(body, noise(n)) {
			t.Error(n)
		}
	}
}

// The holders of the seed and of the private key calculate the same key; with other private keys it is another one.
func TestBothSides(t *testing.T) {
	for i, private := range privates(100) {
		public, seed := raised(api.G, private), api.Key{byte(i), 9}
		s := newSender(public, seed)
		k := keyOf(s)
		if s.u != raised(api.G, drawn(seed)) || k != joined(public, s.u, raised(s.u, private)) {
			t.Error(private)
		}
		if k != keyOf(receiver{public: public, private: private, u: s.u}) {
			t.Error(private)
		}
		if k == keyOf(receiver{public: public, private: private%last + 1, u: s.u}) {
			t.Error("another key", private)
		}
	}
}

func TestElements(t *testing.T) {
	b := elements{0x0102030405060708, 1, api.P}.bytes()
	if hex.EncodeToString(b[:]) != "010203040506070800000000000000013fffffffffffd6bb" {
		t.Errorf("%x", b)
	}
}

// Wraps with one seed have one U; with seeds that differ in a bit they have different ones.
func TestSeeds(t *testing.T) {
	w := wrapOf(t, 1024, counting(), []byte("head"), []byte("body"))
	for i, private := range privates(50) {
		if x := wrapOf(t, raised(api.G, private), counting(), noise(i), noise(2*i)); x.U != w.U {
			t.Error(private)
		}
	}
	seed, seen := counting(), map[int]bool{w.U: true}
	for i := range 256 {
		x := wrapOf(t, 1024, api.Key(flipped(seed[:], i)), []byte("head"), []byte("body"))
		if seen[x.U] {
			t.Error(i)
		}
		seen[x.U] = true
	}
}

// What was wrapped for one of several public keys is unwrapped with its private key alone.
func TestReceivers(t *testing.T) {
	l := privates(10)
	for i, a := range l {
		w := wrapOf(t, raised(api.G, a), api.Key{1}, []byte("head"), noise(i))
		for j, b := range l {
			if i == j {
				bodyOf(t, b, []byte("head"), w)
			} else {
				refuse(t, api.ErrCipher, b, []byte("head"), w)
			}
		}
	}
}

func TestNilIsEmpty(t *testing.T) {
	w := wrapOf(t, 1024, counting(), nil, nil)
	for _, x := range []api.Wrap{wrapOf(t, 1024, counting(), []byte{}, nil), wrapOf(t, 1024, counting(), nil, []byte{}), wrapOf(t, 1024, counting(), []byte{}, []byte{})} {
		if !isSame(w, x) {
			t.Error(x)
		}
	}
	bodyOf(t, 5, nil, w)
	bodyOf(t, 5, []byte{}, w)
	if Check(api.Wrap{U: 4, Body: []byte{}}) != api.ErrWrap || Check(api.Wrap{U: 4}) != api.ErrWrap {
		t.Error("Check")
	}
}

// Head, body and wrap, and what lies behind them, stay as they are, and equal calls return equal results.
func TestArgumentsStay(t *testing.T) {
	head, body := noise(40), noise(50)
	w := wrapOf(t, 1024, counting(), head[:20], body[:30])
	kept := api.Wrap{U: w.U, Body: bytes.Clone(w.Body)}
	x := api.Wrap{U: w.U, Body: append(bytes.Clone(w.Body), noise(9)...)[:len(w.Body)]}
	opened := bodyOf(t, 5, head[:20], x)
	for range 3 {
		if !isSame(wrapOf(t, 1024, counting(), head[:20], body[:30]), kept) || !bytes.Equal(bodyOf(t, 5, head[:20], x), body[:30]) {
			t.Error("equal calls")
		}
	}
	wrapOf(t, 16, full(), head[:20], body[:30])
	refuse(t, api.ErrCipher, 6, head[:20], x)
	if !bytes.Equal(head, noise(40)) || !bytes.Equal(body, noise(50)) || !isSame(w, kept) || !isSame(x, kept) || !bytes.Equal(opened, body[:30]) {
		t.Error("an argument or a result was changed")
	}
	if !bytes.Equal(x.Body[len(w.Body):len(w.Body)+9], noise(9)) {
		t.Error("what lies behind an argument was changed")
	}
}

func FuzzWrap(f *testing.F) {
	f.Add(5, 4, []byte{}, []byte("head"), []byte("body"))
	f.Add(0, 2, []byte{1}, []byte{}, []byte{})
	f.Add(api.Q, api.P, []byte{2}, []byte{0}, make([]byte, 70000))
	f.Add(last, 1, []byte{3}, make([]byte, 100), make([]byte, 16))
	f.Fuzz(func(t *testing.T, private, u int, bits, head, body []byte) {
		var seed api.Key
		copy(seed[:], bits)
		w, e := Wrap(u, seed, head, body)
		switch {
		case !isElement(u):
			if e != api.ErrKey || !isZero(w) {
				t.Error("Wrap", u, e)
			}
		case len(body) > 65536:
			if e != api.ErrCipher || !isZero(w) {
				t.Error("Wrap", len(body), e)
			}
		case e != api.OK || !isSame(w, wrapped(u, seed, head, body)):
			t.Error("Wrap", u, e)
		}
		x := api.Wrap{U: u, Body: body}
		valid := isElement(u) && len(body) >= 16 && len(body) <= 65552
		if (Check(x) == api.OK) != valid {
			t.Error("Check", u, len(body))
		}
		if private < 1 || private > last {
			refuse(t, api.ErrKey, private, head, x)
			return
		}
		if !valid {
			refuse(t, api.ErrWrap, private, head, x)
		} else if k := joined(raised(api.G, private), u, raised(u, private)); !bytes.Equal(closed(k, head, body[:len(body)-16]), body) {
			refuse(t, api.ErrCipher, private, head, x)
		}
		if len(body) <= 65536 {
			w := wrapOf(t, raised(api.G, private), seed, head, body)
			if !bytes.Equal(bodyOf(t, private, head, w), body) {
				t.Error("Unwrap", private)
			}
		}
	})
}
