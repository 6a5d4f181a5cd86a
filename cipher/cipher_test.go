package cipher

import (
	"bytes"
	"crypto/sha256"
	"encoding/binary"
	"encoding/hex"
	"math"
	"math/bits"
	"math/rand"
	"slices"
	"strings"
	"testing"

	"chartroom/api"
)

const sunscreen = "Ladies and Gentlemen of the class of '99: If I could offer you only one tip for the future, sunscreen would be it."

// counting returns the key with the bytes 0, 1 .. 31.
func counting() (k api.Key) {
	for i := range k {
		k[i] = byte(i)
	}
	return k
}

// full returns the key and the nonce whose bits are all 1.
func full() (k api.Key, n api.Nonce) {
	for i := range k {
		k[i] = 255
	}
	for i := range n {
		n[i] = 255
	}
	return k, n
}

// noise returns n bytes, by a rule.
func noise(n int) []byte {
	b := make([]byte, n)
	rand.New(rand.NewSource(int64(n))).Read(b)
	return b
}

// flipped returns bytes of which the bit i is another one.
func flipped(b []byte, i int) []byte {
	f := bytes.Clone(b)
	f[i/8] ^= 1 << (i % 8)
	return f
}

// noises returns a key and a nonce, by a rule.
func noises(seed int) (k api.Key, n api.Nonce) {
	r := rand.New(rand.NewSource(int64(seed)))
	r.Read(k[:])
	r.Read(n[:])
	return k, n
}

// rows calculates a block in another way than the package: with four rows of numbers, three of which are turned between columns and diagonals.
func rows(k api.Key, n api.Nonce, counter uint32) (b []byte) {
	head := slices.Concat([]byte("expand 32-byte k"), k[:], binary.LittleEndian.AppendUint32(nil, counter), n[:])
	var s, v [4][4]uint32
	for i := range 16 {
		s[i/4][i%4] = binary.LittleEndian.Uint32(head[4*i:])
	}
	v = s
	turned := func(row [4]uint32, by int) (t [4]uint32) {
		for i := range t {
			t[i] = row[(i+by)%4]
		}
		return t
	}
	for half := range 20 {
		for _, step := range []struct{ to, from, into, by int }{{0, 1, 3, 16}, {2, 3, 1, 12}, {0, 1, 3, 8}, {2, 3, 1, 7}} {
			for i := range 4 {
				v[step.to][i] += v[step.from][i]
				v[step.into][i] = bits.RotateLeft32(v[step.into][i]^v[step.to][i], step.by)
			}
		}
		by := 1 + half%2*2
		v[1], v[2], v[3] = turned(v[1], by), turned(v[2], 2), turned(v[3], 4-by)
	}
	for i := range 16 {
		b = binary.LittleEndian.AppendUint32(b, v[i/4][i%4]+s[i/4][i%4])
	}
	return b
}

// streamed returns what Stream should return.
func streamed(k api.Key, n api.Nonce, b []byte) (c []byte) {
	counter := uint32(1)
	for part := range slices.Chunk(b, 64) {
		for i, x := range rows(k, n, counter)[:len(part)] {
			c = append(c, part[i]^x)
		}
		counter++
	}
	return c
}

// tagged returns the tag of bytes, by the hash of the test library.
func tagged(k api.Key, n api.Nonce, head, x []byte) []byte {
	first := sha256.Sum256([]byte("tag"))
	size := binary.BigEndian.AppendUint64(nil, uint64(len(head)))
	d := sha256.Sum256(slices.Concat(first[:], k[:], n[:], size, head, x))
	return d[:16]
}

// sealed returns what Seal should return.
func sealed(k api.Key, n api.Nonce, head, body []byte) []byte {
	c := streamed(k, n, body)
	return append(c, tagged(k, n, head, c)...)
}

func blockOf(t *testing.T, k api.Key, n api.Nonce, counter int) []byte {
	t.Helper()
	b, e := Block(k, n, counter)
	if e != api.OK || len(b) != 64 {
		t.Fatal(counter, len(b), e)
	}
	return b
}

func streamOf(t *testing.T, k api.Key, n api.Nonce, b []byte) []byte {
	t.Helper()
	c, e := Stream(k, n, b)
	if e != api.OK || len(c) != len(b) {
		t.Fatal(len(b), len(c), e)
	}
	return c
}

func sealOf(t *testing.T, k api.Key, n api.Nonce, head, body []byte) []byte {
	t.Helper()
	c, e := Seal(k, n, head, body)
	if e != api.OK || len(c) != len(body)+16 {
		t.Fatal(len(head), len(body), len(c), e)
	}
	return c
}

// isRefused tells whether Open returns ErrCipher, and no bytes.
func isRefused(k api.Key, n api.Nonce, head, c []byte) bool {
	body, e := Open(k, n, head, c)
	return e == api.ErrCipher && len(body) == 0
}

// The known blocks, streams and ciphertexts were calculated with another program.
func TestBlockKnown(t *testing.T) {
	ones, last := full()
	for i, x := range []struct {
		k       api.Key
		n       api.Nonce
		counter int
		want    string
	}{
		{api.Key{}, api.Nonce{}, 0, "76b8e0ada0f13d90405d6ae55386bd28bdd219b8a08ded1aa836efcc8b770dc7da41597c5157488d7724e03fb8d84a376a43b8f41518a11cc387b669b2ee6586"},
		{api.Key{}, api.Nonce{}, 1, "9f07e7be5551387a98ba977c732d080dcb0f29a048e3656912c6533e32ee7aed29b721769ce64e43d57133b074d839d531ed1f28510afb45ace10a1f4b794d6f"},
		{api.Key{31: 1}, api.Nonce{}, 1, "3aeb5224ecf849929b9d828db1ced4dd832025e8018b8160b82284f3c949aa5a8eca00bbb4a73bdad192b5c42f73f2fd4e273644c8b36125a64addeb006c13a0"},
		{api.Key{1: 255}, api.Nonce{}, 2, "72d54dfbf12ec44b362692df94137f328fea8da73990265ec1bbbea1ae9af0ca13b25aa26cb4a648cb9b9d1be65b2c0924a66c54d545ec1b7374f4872e99f096"},
		{api.Key{}, api.Nonce{11: 2}, 0, "c2c64d378cd536374ae204b9ef933fcd1a8b2288b3dfa49672ab765b54ee27c78a970e0e955c14f3a88e741b97c286f75f8fc299e8148362fa198a39531bed6d"},
		{counting(), api.Nonce{3: 9, 7: 0x4a}, 1, "10f1e7e4d13b5915500fdd1fa32071c4c7d1f4c733c068030422aa9ac3d46c4ed2826446079faa0914c2d705d98b02a2b5129cd1de164eb9cbd083e8a2503c4e"},
		{api.Key{1}, api.Nonce{}, 0, "c5d30a7ce1ec119378c84f487d775a8542f13ece238a9455e8229e888de85bbd29eb63d0a17a5b999b52da22be4023eb07620a54f6fa6ad8737b71eb0464dac0"},
		{api.Key{}, api.Nonce{1}, 0, "3db41d3aa0d329285de6f225e6e24bd59c9a17006943d5c9b680e3873bdc683a5819469899989690c281cd17c96159af0682b5b903468a61f50228cf09622b5a"},
		{ones, last, 1<<32 - 1, "d72b21cfa4b6b0c41d61f62b8a11159c6a4f63bc56c2035796c7ad37811121bbec56d54a530f3a933dd28a50feb23bfaf64f405be985f3718bdf4683e96be749"},
		{counting(), api.Nonce{}, 1 << 31, "d6f1f67f2446de47d4e9eaaeded07b2ce1a7ff3bacde6eda89085cfe4a3ff1d8e893fd9d4327dd4515c9347379da398f18c558ea74e5e20aad62188c0624beda"},
		{api.Key{}, api.Nonce{0, 1, 2, 3, 4, 5, 6, 7, 8, 9, 10, 11}, 0x01020304, "dcd1976da76b421195222d9d6960b37cf9e8f801529d5a64cae2d5a34abb4e68270284930dcd6cca94b8a60cbda68d2f9bdbd436838fb54a5403ff8e5e5220b6"},
	} {
		if b := blockOf(t, x.k, x.n, x.counter); hex.EncodeToString(b) != x.want {
			t.Errorf("%d: %x", i, b)
		}
	}
}

func TestBlockOfMany(t *testing.T) {
	counters := []int{0, 1, 2, 255, 256, 65535, 65536, 1<<24 - 1, 1 << 24, 1<<31 - 1, 1 << 31, 1<<32 - 2, 1<<32 - 1}
	for seed := range 200 {
		k, n := noises(seed)
		for _, counter := range append(counters, rand.New(rand.NewSource(int64(seed))).Intn(1<<32)) {
			if !bytes.Equal(blockOf(t, k, n, counter), rows(k, n, uint32(counter))) {
				t.Error(seed, counter)
			}
		}
	}
}

// Each bit of the key, the nonce and the counter leads to a block of its own.
func TestBlockOfEachBit(t *testing.T) {
	seen := map[string]bool{}
	check := func(k api.Key, n api.Nonce, counter int) {
		b := blockOf(t, k, n, counter)
		if !bytes.Equal(b, rows(k, n, uint32(counter))) || seen[string(b)] {
			t.Error(k, n, counter)
		}
		seen[string(b)] = true
	}
	check(api.Key{}, api.Nonce{}, 0)
	for i := range 256 {
		check(api.Key(flipped(make([]byte, 32), i)), api.Nonce{}, 0)
	}
	for i := range 96 {
		check(api.Key{}, api.Nonce(flipped(make([]byte, 12), i)), 0)
	}
	for i := range 32 {
		check(api.Key{}, api.Nonce{}, 1<<i)
	}
}

func TestNoCounters(t *testing.T) {
	for _, counter := range []int{-1, -2, -1 << 31, -1<<32 + 1, -1 << 32, math.MinInt, 1 << 32, 1<<32 + 1, 1 << 33, math.MaxInt} {
		if b, e := Block(counting(), api.Nonce{1}, counter); e != api.ErrArg || len(b) > 0 {
			t.Error(counter, b, e)
		}
	}
}

func TestStreamKnown(t *testing.T) {
	c := streamOf(t, counting(), api.Nonce{7: 0x4a}, []byte(sunscreen))
	const want = "6e2e359a2568f98041ba0728dd0d6981e97e7aec1d4360c20a27afccfd9fae0bf91b65c5524733ab8f593dabcd62b3571639d624e65152ab8f530c359f0861d807ca0dbf500d6a6156a38e088a22b65e52bc514d16ccf806818ce91ab77937365af90bbf74a35be6b40b8eedf2785e42874d"
	if hex.EncodeToString(c) != want {
		t.Errorf("%x", c)
	}
}

// The lengths are all up to some blocks, and those near the ends of other blocks and near the limit.
func TestStreamOfMany(t *testing.T) {
	lengths := []int{1023, 1024, 1025, 16383, 16384, 16385, 1<<15 - 1, 1 << 15, 65471, 65472, 65473, 65535, 65536}
	for n := range 300 {
		lengths = append(lengths, n)
	}
	for _, length := range lengths {
		k, n := noises(length)
		b := noise(length)
		c := streamOf(t, k, n, b)
		if !bytes.Equal(c, streamed(k, n, b)) {
			t.Error("Stream", length)
		}
		if !bytes.Equal(streamOf(t, k, n, c), b) {
			t.Error("undone", length)
		}
	}
}

// The stream over zero bytes consists of the blocks, of which that with the counter 0 is none.
func TestStreamOfZeros(t *testing.T) {
	k, n := noises(1)
	c := streamOf(t, k, n, make([]byte, api.MaxPlain))
	for i := range api.MaxPlain / 64 {
		if !bytes.Equal(c[64*i:64*(i+1)], blockOf(t, k, n, i+1)) {
			t.Error(i)
		}
	}
}

func TestTooLong(t *testing.T) {
	for _, length := range []int{65537, 65538, 65552, 1 << 17, 1 << 20} {
		b := make([]byte, length)
		if c, e := Stream(api.Key{}, api.Nonce{}, b); e != api.ErrCipher || len(c) > 0 {
			t.Error("Stream", length, len(c), e)
		}
		if c, e := Seal(api.Key{}, api.Nonce{}, nil, b); e != api.ErrCipher || len(c) > 0 {
			t.Error("Seal", length, len(c), e)
		}
		if !isRefused(api.Key{}, api.Nonce{}, nil, b) {
			t.Error("Open", length)
		}
	}
}

// What becomes of a byte depends on its place, and not on the others.
func TestStreamByPlace(t *testing.T) {
	k, n := noises(2)
	b, other := noise(200), noise(201)[:200]
	c, d := streamOf(t, k, n, b), streamOf(t, k, n, other)
	for i := range b {
		if b[i]^c[i] != other[i]^d[i] {
			t.Error("another", i)
		}
		if !bytes.Equal(streamOf(t, k, n, b[:i]), c[:i]) {
			t.Error("shorter", i)
		}
		changed, want := bytes.Clone(b), bytes.Clone(c)
		changed[i] ^= 0x81
		want[i] ^= 0x81
		if !bytes.Equal(streamOf(t, k, n, changed), want) {
			t.Error("changed", i)
		}
	}
}

func TestSealKnown(t *testing.T) {
	ones, last := full()
	for i, x := range []struct {
		k          api.Key
		n          api.Nonce
		head, body string
		want       string
	}{
		{want: "09527ca6395406ea4a8eddcfdbf8af5f"},
		{head: "head", body: "body", want: "fd6883c75956d4f57366fca0d106a5328dabf57b"},
		{ones, last, "", strings.Repeat("\x00", 16), "dd27403cec1ebe4296d37d313887a4d682a72e0369ab5b15876bf98704f287ec"},
	} {
		if c := sealOf(t, x.k, x.n, []byte(x.head), []byte(x.body)); hex.EncodeToString(c) != x.want {
			t.Errorf("%d: %x", i, c)
		}
	}
	c := sealOf(t, counting(), api.Nonce{7: 0x4a}, []byte("head"), []byte(sunscreen))
	if hex.EncodeToString(c[len(sunscreen):]) != "b2cb43ed75938c55c1a45dc3e408d782" {
		t.Errorf("%x", c)
	}
	nonce := api.Nonce{0, 1, 2, 3, 4, 5, 6, 7, 8, 9, 10, 11}
	c = sealOf(t, counting(), nonce, []byte("big"), make([]byte, api.MaxPlain))
	if d := sha256.Sum256(c); hex.EncodeToString(d[:]) != "bea2da5c3a0b46ef8999900852818790a5c6a8f503f9968d72ee7770f31f1964" {
		t.Errorf("%x", d)
	}
	head := make([]byte, 512)
	for i := range head {
		head[i] = byte(i)
	}
	if c = sealOf(t, counting(), nonce, head, []byte("a")); hex.EncodeToString(c) != "e885e7ee7329e5179e8657093df7ef54f5" {
		t.Errorf("%x", c)
	}
}

func TestSealAndOpen(t *testing.T) {
	for _, size := range []int{0, 1, 7, 8, 9, 63, 64, 255, 256, 257, 65535, 65536, 65537, 1 << 18} {
		for _, length := range []int{0, 1, 15, 16, 17, 63, 64, 65, 130, 65535, 65536} {
			k, n := noises(size + length)
			head, body := noise(size), noise(length)
			c := sealOf(t, k, n, head, body)
			if !bytes.Equal(c, sealed(k, n, head, body)) {
				t.Error("Seal", size, length)
			}
			if b, e := Open(k, n, head, c); e != api.OK || !bytes.Equal(b, body) {
				t.Error("Open", size, length, e)
			}
		}
	}
}

// Less than 16 bytes are too few, also if they begin like a tag, and 65552 the most, also if they end with their tag.
func TestOpenLengths(t *testing.T) {
	k, n := noises(3)
	head := []byte("head")
	empty := sealOf(t, k, n, head, nil)
	for i := range 16 {
		if !isRefused(k, n, head, make([]byte, i)) || !isRefused(k, n, head, empty[:i]) || !isRefused(k, n, head, empty[16-i:]) {
			t.Error(i)
		}
	}
	if b, e := Open(k, n, head, empty); e != api.OK || len(b) > 0 {
		t.Error(b, e)
	}
	for _, length := range []int{65535, 65536, 65537, 65538, 1 << 17} {
		x := noise(length)
		b, e := Open(k, n, head, slices.Concat(x, tagged(k, n, head, x)))
		if length <= api.MaxPlain && (e != api.OK || !bytes.Equal(b, streamed(k, n, x))) {
			t.Error(length, e)
		}
		if length > api.MaxPlain && (e != api.ErrCipher || len(b) > 0) {
			t.Error(length, e)
		}
	}
}

// Any bytes that end with their tag are opened, and none that do not.
func TestOpenAny(t *testing.T) {
	for length := range 150 {
		k, n := noises(length)
		head, x := noise(length/3), noise(length)
		if b, e := Open(k, n, head, slices.Concat(x, tagged(k, n, head, x))); e != api.OK || !bytes.Equal(b, streamed(k, n, x)) {
			t.Error(length, e)
		}
		d := sha256.Sum256(x)
		for _, end := range [][]byte{nil, make([]byte, 16), d[:16], d[16:], noise(16), tagged(k, n, x, head), tagged(k, n, head, streamed(k, n, x))} {
			c := slices.Concat(x, end)
			if !bytes.HasSuffix(c, tagged(k, n, head, c[:max(0, len(c)-16)])) && !isRefused(k, n, head, c) {
				t.Error(length, end)
			}
		}
	}
}

// A ciphertext is opened only as it is, with its own key, nonce and head.
func TestOpenChanged(t *testing.T) {
	k, n := noises(4)
	for _, size := range []int{0, 1, 8, 40} {
		for _, length := range []int{0, 1, 16, 70} {
			head, body := noise(size), noise(length)
			c := sealOf(t, k, n, head, body)
			refuse := func(what string, i int, k api.Key, n api.Nonce, head, c []byte) {
				if !isRefused(k, n, head, c) {
					t.Error(what, size, length, i)
				}
			}
			for i := range 8 * len(c) {
				refuse("ciphertext", i, k, n, head, flipped(c, i))
			}
			for i := range 8 * len(head) {
				refuse("head", i, k, n, flipped(head, i), c)
			}
			for i := range 8 * len(k) {
				refuse("key", i, api.Key(flipped(k[:], i)), n, head, c)
			}
			for i := range 8 * len(n) {
				refuse("nonce", i, k, api.Nonce(flipped(n[:], i)), head, c)
			}
			for i := range c {
				refuse("shorter", i, k, n, head, c[:i])
				refuse("without its beginning", i, k, n, head, c[i+1:])
			}
			for i := range head {
				refuse("shorter head", i, k, n, head[:i], c)
			}
			refuse("longer", 0, k, n, head, append(bytes.Clone(c), 0))
			refuse("longer", 1, k, n, head, append([]byte{0}, c...))
			refuse("longer head", 0, k, n, append(bytes.Clone(head), 0), c)
			refuse("longer head", 1, k, n, append([]byte{0}, head...), c)
			refuse("nothing", 0, k, n, head, nil)
		}
	}
}

// Any byte of a tag that is changed in any way is noticed.
func TestEachByteOfTheTag(t *testing.T) {
	k, n := noises(5)
	head := []byte("head")
	c := sealOf(t, k, n, head, []byte("body"))
	for i := len(c) - 16; i < len(c); i++ {
		for x := 1; x < 256; x++ {
			changed := bytes.Clone(c)
			changed[i] ^= byte(x)
			if !isRefused(k, n, head, changed) {
				t.Error(i, x)
			}
		}
	}
}

// Bytes that stand at the end of the head cannot be those at the beginning of what is encrypted.
func TestHeadEnds(t *testing.T) {
	k, n := noises(6)
	all := noise(90)
	seen := map[string]bool{}
	for i := range len(all) + 1 {
		end := tagged(k, n, all[:i], all[i:])
		if seen[string(end)] {
			t.Error("equal tags", i)
		}
		seen[string(end)] = true
		for j := range len(all) + 1 {
			_, e := Open(k, n, all[:j], slices.Concat(all[j:], end))
			if (e == api.OK) != (i == j) {
				t.Error(i, j, e)
			}
		}
	}
}

func TestNilIsEmpty(t *testing.T) {
	k, n := noises(7)
	if len(streamOf(t, k, n, nil)) > 0 || len(streamOf(t, k, n, []byte{})) > 0 {
		t.Error("Stream")
	}
	c := sealOf(t, k, n, nil, nil)
	for _, head := range [][]byte{nil, {}} {
		if !bytes.Equal(sealOf(t, k, n, head, []byte{}), c) {
			t.Error("Seal")
		}
		if b, e := Open(k, n, head, c); e != api.OK || len(b) > 0 {
			t.Error("Open", b, e)
		}
	}
}

// The bytes behind an argument stay as they are, and no later call changes a result.
func TestArgumentsAndResultsStay(t *testing.T) {
	k, n := noises(8)
	room := noise(300)
	want := bytes.Clone(room)
	block, c, s := blockOf(t, k, n, 1), streamOf(t, k, n, room[:70]), sealOf(t, k, n, room[100:110], room[:70])
	all := slices.Concat(s, room)
	body, e := Open(k, n, room[100:110], all[:len(s)])
	if e != api.OK {
		t.Fatal(e)
	}
	for i := range 3 {
		blockOf(t, k, n, i+1)
		streamOf(t, k, n, room[i:80+i])
		sealOf(t, k, n, room[i:9+i], room[i:80+i])
		Open(k, n, room[100:110], slices.Clone(all[:len(s)]))
	}
	if !bytes.Equal(room, want) || !bytes.Equal(all, slices.Concat(sealed(k, n, want[100:110], want[:70]), want)) {
		t.Error("an argument was changed")
	}
	if !bytes.Equal(block, rows(k, n, 1)) || !bytes.Equal(c, streamed(k, n, want[:70])) || !bytes.Equal(s, sealed(k, n, want[100:110], want[:70])) || !bytes.Equal(body, want[:70]) {
		t.Error("a result was changed")
	}
}

func FuzzCipher(f *testing.F) {
	f.Add([]byte{}, []byte{}, 0, []byte{}, []byte{})
	f.Add(noise(32), noise(12), 1, []byte("head"), noise(100))
	f.Add([]byte{1}, []byte{2}, -1, noise(65), make([]byte, 65537))
	f.Add([]byte{255}, []byte{255}, 1<<32, []byte{0}, make([]byte, 16))
	f.Fuzz(func(t *testing.T, key, nonce []byte, counter int, head, b []byte) {
		var k api.Key
		var n api.Nonce
		copy(k[:], key)
		copy(n[:], nonce)
		if counter < 0 || counter >= 1<<32 {
			if _, e := Block(k, n, counter); e != api.ErrArg {
				t.Fatal(counter, e)
			}
		} else if !bytes.Equal(blockOf(t, k, n, counter), rows(k, n, uint32(counter))) {
			t.Error(k, n, counter)
		}
		isTagged := len(b) >= 16 && len(b) <= 65552 && bytes.HasSuffix(b, tagged(k, n, head, b[:len(b)-16]))
		if isTagged == isRefused(k, n, head, b) {
			t.Error("Open", k, n, head, b)
		}
		if len(b) > api.MaxPlain {
			if _, e := Seal(k, n, head, b); e != api.ErrCipher {
				t.Fatal(len(b), e)
			}
			return
		}
		c := sealOf(t, k, n, head, b)
		if !bytes.Equal(c, sealed(k, n, head, b)) || !bytes.Equal(streamOf(t, k, n, b), c[:len(b)]) {
			t.Error("Seal", k, n, head, b)
		}
		if body, e := Open(k, n, head, c); e != api.OK || !bytes.Equal(body, b) {
			t.Error("opened", k, n, head, b)
		}
	})
}
