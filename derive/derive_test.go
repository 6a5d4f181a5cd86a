package derive

import (
	"bytes"
	"crypto/sha256"
	"encoding/binary"
	"encoding/hex"
	"math"
	"math/big"
	"math/rand"
	"slices"
	"strings"
	"testing"

	"chartroom/api"
	"chartroom/codec"
)

// counting returns the key with the bytes 0, 1 .. 31.
func counting() (k api.Key) {
	for i := range k {
		k[i] = byte(i)
	}
	return k
}

// full returns the key whose bits are all 1.
func full() (k api.Key) {
	for i := range k {
		k[i] = 255
	}
	return k
}

// noise returns n bytes, by a rule.
func noise(n int) []byte {
	b := make([]byte, n)
	rand.New(rand.NewSource(int64(n))).Read(b)
	return b
}

// noises returns a key, by a rule.
func noises(seed int) (k api.Key) {
	rand.New(rand.NewSource(int64(seed))).Read(k[:])
	return k
}

// flipped returns a key of which the bit i is another one.
func flipped(k api.Key, i int) api.Key {
	k[i/8] ^= 1 << (i % 8)
	return k
}

// every returns the 256 bytes, in order.
func every() (b []byte) {
	for i := range 256 {
		b = append(b, byte(i))
	}
	return b
}

// counted returns the numbers from a to b.
func counted(a, b int) (l []int) {
	for n := a; n <= b; n++ {
		l = append(l, n)
	}
	return l
}

// labels returns labels that resemble encodings and each other, some of whose lengths have one digit more than the others'.
func labels() []string {
	l := []string{"", "path", "step", "item", "derive", "mix", "a", "b", "ab", "a ", "\x00", "\x00\x00", "\x01", "\x01\x00", "\x02\x00", "\x03\x01\x02\x00", "\xff", "\xff\xfe\xc3", "ä"}
	for _, n := range []int{20, 21, 64, 127, 128, 129, 1000, 16383, 16384} {
		l = append(l, strings.Repeat("l", n))
	}
	return l
}

// lists returns lists of numbers at the ends of the lengths of their numerals and elsewhere, of which some begin others.
func lists() [][]int {
	ends := []int{0, 1, -1, 2, 63, 64, -64, -65, 127, 128, 8191, 8192, -8192, -8193, 1 << 31, 1 << 40, -1 << 40, 1 << 62, -1 << 62, math.MaxInt, math.MinInt}
	l := [][]int{nil, {0, 0}, {0, -1}, {-1, 0}, {0, 1, 0}, {511, 1 << 20}, {math.MinInt, math.MaxInt}, ends}
	for _, n := range ends {
		l = append(l, []int{n})
	}
	for _, n := range []int{60, 126, 127, 128, 129, 1000} {
		l = append(l, counted(1, n), make([]int, n))
	}
	return l
}

// tagged returns the hash of parts under a tag, by the hash of the test library.
func tagged(tag string, parts ...[]byte) [32]byte {
	first := sha256.Sum256([]byte(tag))
	return sha256.Sum256(append(first[:], bytes.Join(parts, nil)...))
}

// expanded returns what Expand should return. The test library writes numerals as the codec does.
func expanded(k api.Key, label string, numbers []int) api.Key {
	b := binary.AppendUvarint([]byte{3}, uint64(1+len(numbers)))
	b = append(binary.AppendUvarint(append(b, 2), uint64(len(label))), label...)
	for _, n := range numbers {
		b = binary.AppendVarint(append(b, 1), int64(n))
	}
	return tagged("derive", k[:], b)
}

// mixed returns what Mix should return.
func mixed(label string, a, b api.Key) api.Key {
	d := sha256.Sum256([]byte(label))
	return tagged("mix", d[:], a[:], b[:])
}

// scalar returns what Scalar should return.
func scalar(k api.Key, label string) int {
	x := expanded(k, label, nil)
	d := tagged("scalar", x[:])
	n := new(big.Int).SetBytes(d[:])
	return 1 + int(n.Mod(n, big.NewInt(api.Q-1)).Int64())
}

func stepOf(t *testing.T, k api.Key, n int) api.Key {
	t.Helper()
	x, e := Step(k, n)
	if e != api.OK {
		t.Fatal(n, e)
	}
	return x
}

// expect compares a key with a known one. These were calculated with another program.
func expect(t *testing.T, i int, k api.Key, want string) {
	t.Helper()
	if hex.EncodeToString(k[:]) != want {
		t.Errorf("%d: %x", i, k)
	}
}

// differ returns a function that is given keys, of which no two may be equal.
func differ(t *testing.T) func(k api.Key, name ...any) {
	seen := map[api.Key][]any{}
	return func(k api.Key, name ...any) {
		t.Helper()
		if other, ok := seen[k]; ok {
			t.Error("equal keys", other, name)
		}
		seen[k] = name
	}
}

func TestFirstKnown(t *testing.T) {
	for i, x := range []struct {
		seed []byte
		want string
	}{
		{nil, "a7e130694166cdb95b1e1bbce3f21e4dbd63f46df42b48c5a1f8295033d57d04"},
		{[]byte{}, "a7e130694166cdb95b1e1bbce3f21e4dbd63f46df42b48c5a1f8295033d57d04"},
		{[]byte{0}, "138626ee6f4f2171b117efed013ab228d4a016d5633c56e2cd9dce56fe1b7560"},
		{[]byte("x"), "b609997355689f97f01f442fa1fbf0aed418fdc4ac86c977d42ccbe346b7928b"},
		{[]byte("seed"), "77ffc37c6706f76521875fba5cf7787d4a8100e607e6a35edbe4ae9a573cfb43"},
		{make([]byte, 32), "9103cd8ee653a53669dc1579fbdae4933f58209b8b11c49882a82c8b1e5e183b"},
		{every()[:32], "eae5f908729cf08c09da75b78aec4d6c131ffc0284832d06704fb295ca5ac11d"},
		{every(), "2ecc76273b3ca425c4e72ece83bf28018752f1a3168c6c4b41b5e30a7a965613"},
		{[]byte("chartroom"), "878a1bc96122146d0ea5d3636e45602e4e5b2f03b6504e24cde6765388b10ef5"},
		{slices.Repeat([]byte("s"), 1000), "f42584a3062479061c38d9294dcbf66abe78fe623d30bb5345b4b5b3de15224e"},
	} {
		expect(t, i, First(x.seed), x.want)
	}
}

func TestFirstOfMany(t *testing.T) {
	check := differ(t)
	for n := range 400 {
		seed := noise(n)
		if First(seed) != tagged("seed", seed) {
			t.Error(n)
		}
		check(First(seed), n)
		check(First(make([]byte, n+1)), "zeros", n)
	}
}

func TestExpandKnown(t *testing.T) {
	for i, x := range []struct {
		k       api.Key
		label   string
		numbers []int
		want    string
	}{
		{api.Key{}, "", nil, "b7d07e36c3212d2b78b886c04b04f6c8318510d0e2beb2d4510f2c2b57bdb1fa"},
		{api.Key{}, "path", nil, "f7c02a839b6bef1a62ca9d6f4f5abff35bbcb745ebf5396edf7052915bb5b397"},
		{counting(), "path", nil, "aefb08c34b7a409240796ab333a13283b3d312e5181f30fb4b95d3637bb41999"},
		{full(), "path", []int{}, "96e543440d2ac184453049c6654a579d5be5d2ee9e2f7e2137254b9c91a043df"},
		{counting(), "", []int{0}, "89f6fc05e0e8066f73605137f0ece8a3fd3a4a7aa6dd8452ecb35cff2be24a32"},
		{counting(), "item", []int{0, -1}, "26b47953c887680c43bde51202b0101cf675464241045eddd1793af7c14231ba"},
		{counting(), "item", []int{-1, 0}, "c4e5ebc1cb0581c69eaac7faa2ede9e600bacd9be73a15b6bdbe2b466a93300f"},
		{counting(), "item", []int{math.MinInt, math.MaxInt}, "812be5e3d87fc92354d6cb4053b49f52f0ea73f328536c4b036c44f87c13f37a"},
		{counting(), "box", []int{9, 1023}, "9c9a2245b0b8043e71198587c452edd5e60bef11c39316a124a407ce8bb8207d"},
		{counting(), "\x00\xff\xc3", []int{1}, "4cd3b2cc518ac97dd9a7402a607779f27eb2f23a94c5a181503c20bd74e45a90"},
		{counting(), strings.Repeat("l", 127), nil, "b52004aaaaa9315d5fbb844ede1bdb811f73e59e1b9e40964d7e8bac60317ab6"},
		{counting(), strings.Repeat("l", 128), nil, "418c9dba5710a457d2bfe13d4189503ec17d977b443b27e94ff809601f96e16d"},
		{counting(), strings.Repeat(string(every()), 64), []int{63, 64, -64, -65}, "35f5553ba41ebcc7978dedeea06f6f12bafa8aed3153a8ec2b4a1d43751b27f0"},
		{counting(), "many", counted(-500, 499), "8731dd3710dd740bec8d3396232ee300cd6924ab470b0df8776c55977d29a312"},
	} {
		expect(t, i, Expand(x.k, x.label, x.numbers), x.want)
	}
}

// The keys are all different, also where labels and numbers resemble each other.
func TestExpandOfMany(t *testing.T) {
	check := differ(t)
	for seed := range 3 {
		k := noises(seed)
		for i, label := range labels() {
			for j, numbers := range lists() {
				x := Expand(k, label, numbers)
				if x != expanded(k, label, numbers) {
					t.Error(seed, i, j)
				}
				check(x, seed, i, j)
			}
		}
	}
}

// A label whose last bytes are the encoding of a number leads to another key than the label before them with this number.
func TestLabelsEnd(t *testing.T) {
	check := differ(t)
	for n := range 200 {
		b, e := codec.Encode(api.Value{Kind: api.IntV, N: n})
		if e != api.OK {
			t.Fatal(n, e)
		}
		check(Expand(counting(), "label", []int{n}), n)
		check(Expand(counting(), "label"+string(b), nil), "label", n)
		check(Expand(counting(), "label"+string(b), []int{n}), "both", n)
	}
}

// What is hashed is a key and an encoding, which Decode accepts, so that no other key, label or numbers lead to it.
func TestEncoding(t *testing.T) {
	seen := map[string]bool{}
	for i, label := range labels() {
		for j, numbers := range lists() {
			b := encoding(label, numbers)
			v, e := codec.Decode(b)
			if e != api.OK || v.Kind != api.ListV || len(v.L) != 1+len(numbers) || v.L[0].Kind != api.TextV || v.L[0].S != label {
				t.Fatal(i, j, e)
			}
			for at, n := range numbers {
				if x := v.L[1+at]; x.Kind != api.IntV || x.N != n {
					t.Error(i, j, at)
				}
			}
			if seen[string(b)] {
				t.Error("equal encodings", i, j)
			}
			seen[string(b)] = true
		}
	}
}

func TestMixKnown(t *testing.T) {
	for i, x := range []struct {
		label string
		a, b  api.Key
		want  string
	}{
		{"", api.Key{}, api.Key{}, "30e415e8ac83d2b42f473bb232ad7776038b3d7f2f4565109870ccfea869d416"},
		{"epoch", api.Key{}, api.Key{}, "d38d96a7b98296884bdcfef1427e8b828e61d4effea4b6995ae222be961517d1"},
		{"epoch", api.Key{}, counting(), "c62b5ab037136ca04b2b56358d8a02e0fc3def7ff3b97c1f72c9e271643b4bb4"},
		{"epoch", counting(), api.Key{}, "3b28aa19184712644dd17e61df95e11a807d9815a36e6d9300ae2e92c6457930"},
		{"child", full(), counting(), "64ed018af9a3c8094db6b4d0884546304506d80264a53f053630e53308a2df5a"},
		{strings.Repeat("m", 100), counting(), full(), "6f0fe803be86b89eec4e9d04d9342560ebad3288990b2ffcef3149c516f65a3d"},
		{"\x00\xff", counting(), counting(), "654c9d9c3f6c4186d4f48372f42b1d18ce3a8474ba4d143081f5cbc807ea906d"},
	} {
		expect(t, i, Mix(x.label, x.a, x.b), x.want)
	}
}

// The keys are all different, also where both keys are exchanged or equal.
func TestMixOfMany(t *testing.T) {
	check := differ(t)
	keys := []api.Key{{}, {1}, {31: 1}, counting(), full(), noises(1), noises(2)}
	for at, label := range labels() {
		for i, a := range keys {
			for j, b := range keys {
				x := Mix(label, a, b)
				if x != mixed(label, a, b) {
					t.Error(at, i, j)
				}
				check(x, at, i, j)
			}
		}
	}
}

// Each bit of a key leads to other keys, whatever is derived.
func TestEachBit(t *testing.T) {
	check := differ(t)
	k := noises(3)
	seen := map[int]bool{}
	add := func(x api.Key, i int) {
		check(Expand(x, "label", []int{1}), "Expand", i)
		check(Mix("label", x, k), "Mix, first", i)
		if x != k {
			check(Mix("label", k, x), "Mix, second", i)
		}
		check(First(x[:]), "First", i)
		check(stepOf(t, x, 3), "Step", i)
		n := Scalar(x, "label")
		if seen[n] {
			t.Error("equal scalars", i)
		}
		seen[n] = true
	}
	add(k, -1)
	for i := range 256 {
		add(flipped(k, i), i)
	}
}

func TestStepKnown(t *testing.T) {
	for i, x := range []struct {
		k    api.Key
		n    int
		want string
	}{
		{api.Key{}, 1, "53c7f40c3db0d26b50a79edf6cc40d85d7ad769e46eaa43db28f20e13b023a3e"},
		{api.Key{}, 2, "b332e6b7bec391ab1bfa58e8bba21aab35be880afe7e15a8616090d881a79184"},
		{api.Key{}, 10, "39856d9df3b2a0843b1266b991775471c9601bca8f7891c5735006d40d951534"},
		{counting(), 1, "edfa3083c61493920039f59a7f415deec98488f81cf47b084280eaaf2101f89c"},
		{counting(), 255, "3460940ffc980fd5c3c5ab1729efa6ea6870f378196e82b3a69b36ce4de807a2"},
		{counting(), 256, "d5cadab3d3ae6b26373742f2a639bab3db78f2d4cfea82145eb0339dbeb2fac9"},
		{full(), 1000, "11391058f5511cda085c401c40a1b8b2a4280d9ea60a0a984b3133a97d80a0b0"},
		{counting(), 65535, "24052fdc7299ec709843d1a9e90d1f1ae48fcbcb5a7f8c520a4d9b9a6c7c95f3"},
		{counting(), 65536, "58471eb5cf2aa7831fd0f2ac80275232bbdc9242b805ff3447baacf1841b7469"},
	} {
		expect(t, i, stepOf(t, x.k, x.n), x.want)
	}
}

func TestNoSteps(t *testing.T) {
	for seed := range 20 {
		if k := noises(seed); stepOf(t, k, 0) != k {
			t.Error(seed)
		}
	}
	if stepOf(t, api.Key{}, 0) != (api.Key{}) {
		t.Error("the zero key")
	}
}

func TestStepOfMany(t *testing.T) {
	check := differ(t)
	for seed := range 3 {
		k := noises(seed)
		want := k
		for n := range 300 {
			x := stepOf(t, k, n)
			if x != want {
				t.Error(seed, n)
			}
			check(x, seed, n)
			want = expanded(want, "step", nil)
		}
	}
}

func TestStepRefuses(t *testing.T) {
	for _, k := range []api.Key{{}, counting(), full()} {
		for _, n := range []int{-1, -2, -65536, -65537, -1 << 32, math.MinInt, math.MinInt + 1} {
			if x, e := Step(k, n); e != api.ErrArg || x != (api.Key{}) {
				t.Error(n, x, e)
			}
		}
		for _, n := range []int{65537, 65538, 1 << 17, 1 << 32, 1<<32 + 1, math.MaxInt - 1, math.MaxInt} {
			if x, e := Step(k, n); e != api.ErrLimit || x != (api.Key{}) {
				t.Error(n, x, e)
			}
		}
	}
}

func TestStepsAddUp(t *testing.T) {
	k := noises(4)
	for m := range 20 {
		for n := range 20 {
			if stepOf(t, stepOf(t, k, m), n) != stepOf(t, k, m+n) {
				t.Error(m, n)
			}
		}
	}
	most := stepOf(t, k, api.MaxSteps)
	for _, m := range []int{0, 1, 2, 255, 32767, 32768, 65534, 65535, 65536} {
		if stepOf(t, stepOf(t, k, m), api.MaxSteps-m) != most {
			t.Error(m)
		}
	}
}

// An enumeration of the keys that is left begins anew.
func TestAfter(t *testing.T) {
	k := noises(5)
	seq := after(k, 5)
	for end := range 7 {
		var l []api.Key
		for x := range seq {
			l = append(l, x)
			if len(l) == end {
				break
			}
		}
		if end == 0 || end > 5 {
			end = 5
		}
		if len(l) != end {
			t.Fatal(len(l), end)
		}
		for i, x := range l {
			if x != stepOf(t, k, i+1) {
				t.Error(end, i)
			}
		}
	}
}

func TestScalarKnown(t *testing.T) {
	for i, x := range []struct {
		k     api.Key
		label string
		want  int
	}{
		{api.Key{}, "", 1215360895105196171},
		{api.Key{}, "node", 508214443989868748},
		{api.Key{}, "link", 2076035094503856876},
		{counting(), "node", 1626067303043064367},
		{counting(), "link", 265467898829157953},
		{full(), "wrap", 1270401116170474813},
		{counting(), strings.Repeat("s", 200), 9634705267869494},
		{counting(), "\xff\x00", 145879390317069734},
	} {
		if n := Scalar(x.k, x.label); n != x.want {
			t.Error(i, n)
		}
	}
}

func TestScalarOfMany(t *testing.T) {
	seen := map[int]bool{}
	for seed := range 50 {
		k := noises(seed)
		for i, label := range labels() {
			n := Scalar(k, label)
			if n != scalar(k, label) || n < 1 || n >= api.Q || seen[n] {
				t.Error(seed, i, n)
			}
			seen[n] = true
		}
	}
}

// Different functions derive different keys from the same bytes.
func TestFunctionsDiffer(t *testing.T) {
	check := differ(t)
	for i, k := range []api.Key{{}, counting(), noises(6)} {
		check(k, "key", i)
		check(First(k[:]), "First", i)
		check(Mix("step", k, k), "Mix", i)
		check(Expand(k, "mix", nil), "Expand", i)
		check(Expand(k, "step", []int{0}), "Expand with a number", i)
		if Expand(k, "step", nil) != stepOf(t, k, 1) {
			t.Error("one step", i)
		}
		check(stepOf(t, k, 1), "Step", i)
	}
}

func TestNilIsEmpty(t *testing.T) {
	if First(nil) != First([]byte{}) {
		t.Error("First")
	}
	for i, label := range labels() {
		if Expand(counting(), label, nil) != Expand(counting(), label, []int{}) {
			t.Error("Expand", i)
		}
	}
}

// The seed, the numbers and what lies behind them stay as they are, and equal calls return equal results.
func TestArgumentsStay(t *testing.T) {
	seed, numbers := noise(300), counted(0, 299)
	k := counting()
	first, x := First(seed[:70]), Expand(k, "label", numbers[:70])
	for range 3 {
		if First(seed[:70]) != first || Expand(k, "label", numbers[:70]) != x {
			t.Error("equal calls")
		}
	}
	if !bytes.Equal(seed, noise(300)) || !slices.Equal(numbers, counted(0, 299)) {
		t.Error("an argument was changed")
	}
}

func FuzzDerive(f *testing.F) {
	f.Add([]byte{}, []byte{}, "", 0, 0, 0)
	f.Add(noise(32), noise(31), "label", 1, -1, 2)
	f.Add([]byte{1}, []byte{2}, "\x00\xff", math.MinInt, math.MaxInt, -1)
	f.Add(noise(33), []byte{}, "step", 64, -65, 65537)
	f.Fuzz(func(t *testing.T, one, two []byte, label string, x, y, n int) {
		var a, b api.Key
		copy(a[:], one)
		copy(b[:], two)
		if First(one) != tagged("seed", one) {
			t.Error("First", one)
		}
		for _, numbers := range [][]int{nil, {x}, {x, y}, {y, x, n}} {
			if Expand(a, label, numbers) != expanded(a, label, numbers) {
				t.Errorf("Expand %v %q %v", a, label, numbers)
			}
		}
		if Mix(label, a, b) != mixed(label, a, b) {
			t.Errorf("Mix %q %v %v", label, a, b)
		}
		if Scalar(a, label) != scalar(a, label) {
			t.Errorf("Scalar %v %q", a, label)
		}
		key, e := Step(a, n)
		switch {
		case n < 0 && e != api.ErrArg, n > 65536 && e != api.ErrLimit, n >= 0 && n <= 65536 && e != api.OK:
			t.Error("Step", n, e)
		case e != api.OK && key != api.Key{}:
			t.Error("Step with an error", n, key)
		case n > 0 && n < 100:
			if before, e := Step(a, n-1); e != api.OK || key != expanded(before, "step", nil) {
				t.Error("Step", n, e)
			}
		}
	})
}
