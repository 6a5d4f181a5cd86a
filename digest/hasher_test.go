package digest

import (
	"bytes"
	"crypto/sha256"
	"encoding/hex"
	"math/rand"
	"strings"
	"testing"

	"chartroom/api"
)

// as returns n bytes `a`.
func as(n int) string { return strings.Repeat("a", n) }

func TestSumKnown(t *testing.T) {
	for i, x := range []struct{ s, want string }{
		{"", "e3b0c44298fc1c149afbf4c8996fb92427ae41e4649b934ca495991b7852b855"},
		{"abc", "ba7816bf8f01cfea414140de5dae2223b00361a396177a9cb410ff61f20015ad"},
		{"abcdbcdecdefdefgefghfghighijhijkijkljklmklmnlmnomnopnopq", "248d6a61d20638b8e5c026930c3e6039a33ce45964ff2167f6ecedd419db06c1"},
		{as(1), "ca978112ca1bbdcafac231b39a23dc4da786eff8147c4e72b9807785afee48bb"},
		{as(55), "9f4390f8d30c2dd92ec9f095b65e2b9ae9b0a925a5258e241c9f1e910f734318"},
		{as(56), "b35439a4ac6f0948b6d6f9e3c6af0f5f590ce20f1bde7090ef7970686ec6738a"},
		{as(63), "7d3e74a05d7db15bce4ad9ec0658ea98e3f06eeecf16b4c6fff2da457ddc2f34"},
		{as(64), "ffe054fe7ae0cb6dc65c3af9b61d5209f439851db43d0ba5997337df154668eb"},
		{as(65), "635361c48bb9eab14198e76ea8ab7f1a41685d6ad62aa9146d301d4f17eb0ae0"},
		{as(119), "31eba51c313a5c08226adf18d4a359cfdfd8d2e816b13f4af952f7ea6584dcfb"},
		{as(120), "2f3d335432c70b580af0e8e1b3674a7c020d683aa5f73aaaedfdc55af904c21c"},
		{as(127), "c57e9278af78fa3cab38667bef4ce29d783787a2f731d4e12200270f0c32320a"},
		{as(128), "6836cf13bac400e9105071cd6af47084dfacad4e5e302c94bfed24e013afb73e"},
		{as(129), "c12cb024a2e5551cca0e08fce8f1c5e314555cc3fef6329ee994a3db752166ae"},
		{as(1000000), "cdc76e5c9914fb9281a1c7e284d73e67f1809a48a497200e046d39ccc7112cd0"},
	} {
		if d := Sum([]byte(x.s)); hex.EncodeToString(d[:]) != x.want {
			t.Errorf("%d: %x", i, d)
		}
	}
}

// noise returns n bytes, by a rule.
func noise(n int) []byte {
	b := make([]byte, n)
	rand.New(rand.NewSource(int64(n))).Read(b)
	return b
}

// The library of the tests has the same function.
func TestSumEveryLength(t *testing.T) {
	for n := range 400 {
		for _, b := range [][]byte{noise(n), bytes.Repeat([]byte{255}, n), make([]byte, n)} {
			if Sum(b) != sha256.Sum256(b) {
				t.Error(n)
			}
		}
	}
	for _, n := range []int{1<<13 - 1, 1 << 13, 1<<21 - 1, 1 << 21} { // the number of bits has 2 bytes, 3, 3 and 4
		if b := noise(n); Sum(b) != sha256.Sum256(b) {
			t.Error(n)
		}
	}
}

// A number of bits that needs more than 32 bits is written in full. The bytes come in parts to save memory.
func TestManyBits(t *testing.T) {
	if testing.Short() {
		t.Skip("hashes 512 MiB")
	}
	b := noise(1 << 20)
	ours, theirs := newHasher(), sha256.New()
	for range 1 << 9 {
		ours.write(b)
		theirs.Write(b)
	}
	if d := ours.end(); !bytes.Equal(d[:], theirs.Sum(nil)) {
		t.Errorf("%x", d)
	}
}

func TestTagged(t *testing.T) {
	for _, tag := range []string{"", "a", "leaf", "node", "ä\x00\xff", as(55), as(56), as(64), as(200)} {
		for n := range 140 {
			b := noise(n)
			first := sha256.Sum256([]byte(tag))
			if Tagged(tag, b) != sha256.Sum256(append(first[:], b...)) {
				t.Errorf("%q %d", tag, n)
			}
		}
	}
	first := Sum(nil)
	if Tagged("", nil) != Sum(first[:]) {
		t.Error("the empty tag and no bytes")
	}
	if d := Tagged("leaf", make([]byte, 32)); hex.EncodeToString(d[:]) != zeroLeaf {
		t.Errorf("%x", d)
	}
}

// What is hashed under one tag differs from what is hashed under another, or under none.
func TestTagsDiffer(t *testing.T) {
	seen := map[api.Digest][2]string{}
	for _, tag := range []string{"", "leaf", "leaf ", "lea", "Leaf", "node", "chain", "empty"} {
		for _, s := range []string{"", "f", "x", "leaf", "\x00"} {
			d := Tagged(tag, []byte(s))
			if x, ok := seen[d]; ok || d == Sum([]byte(tag+s)) {
				t.Errorf("%q %q %q", tag, s, x)
			}
			seen[d] = [2]string{tag, s}
		}
	}
}

// tagged hashes its parts as if they were one.
func TestParts(t *testing.T) {
	b := noise(300)
	want := Tagged("x", b)
	for i := range len(b) + 1 {
		for _, k := range []int{i, i + (len(b)-i)/3, len(b)} {
			if tagged("x", b[:i], b[i:k], nil, b[k:]) != want {
				t.Error(i, k)
			}
		}
	}
}

func TestNilIsEmpty(t *testing.T) {
	if Sum(nil) != Sum([]byte{}) || Tagged("x", nil) != Tagged("x", []byte{}) || Tree(nil) != Tree([]api.Digest{}) {
		t.Error("nil and empty differ")
	}
}

func TestArgumentsStay(t *testing.T) {
	room := noise(300)
	b := room[:100]
	want := bytes.Clone(room)
	for range 2 {
		Sum(b)
		Tagged("x", b)
	}
	if !bytes.Equal(room, want) {
		t.Error("an argument was changed")
	}
}

func FuzzSum(f *testing.F) {
	f.Add("", []byte{})
	f.Add("leaf", make([]byte, 32))
	f.Fuzz(func(t *testing.T, tag string, b []byte) {
		first := sha256.Sum256([]byte(tag))
		if Sum(b) != sha256.Sum256(b) || Tagged(tag, b) != sha256.Sum256(append(first[:], b...)) {
			t.Error(tag, b)
		}
	})
}
