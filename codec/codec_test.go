package codec

import (
	"bytes"
	"math"
	"math/rand"
	"slices"
	"strings"
	"testing"

	"chartroom/api"
)

func num(n int) api.Value { return api.Value{Kind: api.IntV, N: n} }

func str(s string) api.Value { return api.Value{Kind: api.TextV, S: s} }

func list(l ...api.Value) api.Value { return api.Value{Kind: api.ListV, L: l} }

// nest puts v into n lists, one within the other.
func nest(n int, v api.Value) api.Value {
	for range n {
		v = list(v)
	}
	return v
}

// nines returns a first byte, nine bytes 255, and others.
func nines(first byte, others ...byte) []byte {
	return slices.Concat([]byte{first}, bytes.Repeat([]byte{255}, 9), others)
}

// pair is a value with its encoding.
type pair struct {
	v api.Value
	b []byte
}

// pairs returns values whose encodings follow from the table of the chapter.
func pairs() []pair {
	long := strings.Repeat("x", 300)
	many := make([]api.Value, 128)
	for i := range many {
		many[i] = num(0)
	}
	return []pair{
		{num(0), []byte{1, 0}},
		{num(-1), []byte{1, 1}},
		{num(1), []byte{1, 2}},
		{num(-3), []byte{1, 5}},
		{num(63), []byte{1, 126}},
		{num(-64), []byte{1, 127}},
		{num(64), []byte{1, 128, 1}},
		{num(-65), []byte{1, 129, 1}},
		{num(100), []byte{1, 200, 1}},
		{num(8191), []byte{1, 254, 127}},
		{num(-8192), []byte{1, 255, 127}},
		{num(8192), []byte{1, 128, 128, 1}},
		{num(1<<62 - 1), []byte{1, 254, 255, 255, 255, 255, 255, 255, 255, 127}},
		{num(1 << 62), []byte{1, 128, 128, 128, 128, 128, 128, 128, 128, 128, 1}},
		{num(math.MaxInt), []byte{1, 254, 255, 255, 255, 255, 255, 255, 255, 255, 1}},
		{num(math.MinInt), nines(1, 1)},
		{num(math.MinInt + 1), []byte{1, 253, 255, 255, 255, 255, 255, 255, 255, 255, 1}},
		{str(""), []byte{2, 0}},
		{str("ab"), []byte{2, 2, 'a', 'b'}},
		{str("\x00\xff"), []byte{2, 2, 0, 255}},
		{str(long[:127]), append([]byte{2, 127}, long[:127]...)},
		{str(long[:128]), append([]byte{2, 128, 1}, long[:128]...)},
		{str(long), append([]byte{2, 172, 2}, long...)},
		{list(), []byte{3, 0}},
		{list(num(100), str("ab")), []byte{3, 2, 1, 200, 1, 2, 2, 'a', 'b'}},
		{list(str(""), list(), num(0)), []byte{3, 3, 2, 0, 3, 0, 1, 0}},
		{list(list(num(1)), list(list())), []byte{3, 2, 3, 1, 1, 2, 3, 1, 3, 0}},
		{list(many[:127]...), append([]byte{3, 127}, bytes.Repeat([]byte{1, 0}, 127)...)},
		{list(many...), append([]byte{3, 128, 1}, bytes.Repeat([]byte{1, 0}, 128)...)},
		{nest(15, list()), append(bytes.Repeat([]byte{3, 1}, 15), 3, 0)},
		{nest(16, num(0)), append(bytes.Repeat([]byte{3, 1}, 16), 1, 0)},
		{nest(16, str("a")), append(bytes.Repeat([]byte{3, 1}, 16), 2, 1, 'a')},
	}
}

// refused is a value that Check does not accept.
type refused struct {
	v api.Value
	e api.Errno
}

func refusals() []refused {
	wrong := []api.Value{
		{},
		{Kind: 4},
		{Kind: -1},
		{Kind: math.MaxInt},
		{Kind: math.MinInt},
		{N: 1},
		{Kind: api.IntV, S: "a"},
		{Kind: api.IntV, L: []api.Value{num(1)}},
		{Kind: api.TextV, N: -1},
		{Kind: api.TextV, S: "a", L: []api.Value{num(1)}},
		{Kind: api.ListV, N: 1},
		{Kind: api.ListV, S: "a", L: []api.Value{num(1)}},
	}
	l := []refused{
		{nest(16, list()), api.ErrLimit},
		{nest(17, num(0)), api.ErrLimit},
		{list(num(1), nest(16, str("")), num(1)), api.ErrLimit},
		{nest(65535, num(0)), api.ErrLimit},
		{nest(65535, api.Value{}), api.ErrArg},
		{list(nest(17, num(0)), api.Value{}), api.ErrArg},
		{list(api.Value{}, nest(17, num(0))), api.ErrArg},
	}
	for _, v := range wrong {
		l = append(l, refused{v, api.ErrArg}, refused{list(num(1), v), api.ErrArg}, refused{nest(20, v), api.ErrArg})
	}
	return l
}

func TestEncode(t *testing.T) {
	for i, p := range pairs() {
		if e := Check(p.v); e != api.OK {
			t.Error(i, "Check", e)
		}
		if b, e := Encode(p.v); e != api.OK || !bytes.Equal(b, p.b) {
			t.Error(i, "Encode", b, e)
		}
		if n, e := Size(p.v); e != api.OK || n != len(p.b) {
			t.Error(i, "Size", n, e)
		}
	}
}

func TestRefused(t *testing.T) {
	for i, r := range refusals() {
		if e := Check(r.v); e != r.e {
			t.Error(i, "Check", e)
		}
		if b, e := Encode(r.v); e != r.e || len(b) > 0 {
			t.Error(i, "Encode", b, e)
		}
		if n, e := Size(r.v); e != r.e || n != 0 {
			t.Error(i, "Size", n, e)
		}
	}
}

// An empty list of elements is as good as none where the kind does not use it.
func TestEmptyElements(t *testing.T) {
	empty := []api.Value{}
	for i, v := range []api.Value{{Kind: api.IntV, L: empty}, {Kind: api.TextV, L: empty}, {Kind: api.ListV, L: empty}} {
		b, e := Encode(v)
		if want := []byte{byte(v.Kind), 0}; e != api.OK || !bytes.Equal(b, want) {
			t.Error(i, b, e)
		}
	}
}

func TestDecode(t *testing.T) {
	for i, p := range pairs() {
		given := bytes.Clone(p.b)
		v, e := Decode(given)
		if e != api.OK || !Same(v, p.v) {
			t.Error(i, v, e)
		}
		if !bytes.Equal(given, p.b) {
			t.Error(i, "the argument was changed")
		}
	}
}

func TestDecodeRefuses(t *testing.T) {
	for i, b := range [][]byte{
		nil,
		{},
		{0},
		{0, 0},
		{4, 0},
		{255},
		{1},
		{2},
		{3},
		{1, 128},               // a digit is missing
		{1, 128, 0},            // a digit is superfluous
		{1, 128, 128, 0},       // two of them
		{1, 5, 0},              // a byte is superfluous
		{2, 128, 0},            // in the length of a text
		{2, 129, 0, 'a'},       //
		{3, 128, 0},            // in the number of elements
		{2, 3, 'a'},            // bytes are missing
		{2, 0, 0},              //
		{2, 1, 'a', 'b'},       //
		{3, 1},                 // elements are missing
		{3, 2, 1, 0},           //
		{3, 1, 1},              //
		{3, 0, 1, 0},           //
		{3, 1, 0},              // an element of no kind
		{3, 1, 4, 0},           //
		nines(1),               // the tenth digit is missing
		nines(1, 0),            // it is superfluous
		nines(1, 2),            // it is too large
		nines(1, 127),          //
		nines(1, 129),          //
		nines(1, 129, 0),       // there are more than ten
		nines(1, 128, 1),       //
		nines(2, 1),            // a text of 2^64 - 1 bytes
		nines(3, 1),            // a list of as many elements
		nines(3, 1, 1, 0),      //
		nines(2, 2),            //
		nines(3, 2),            //
		{3, 255, 255, 3, 1, 0}, //
		append(bytes.Repeat([]byte{3, 1}, 16), 3, 0),       // 17 lists
		append(bytes.Repeat([]byte{3, 1}, 17), 1, 0),       //
		append(bytes.Repeat([]byte{3, 1}, 1<<16), 1, 0),    //
		bytes.Repeat([]byte{3, 128, 128, 128, 128, 1}, 20), //
	} {
		if v, e := Decode(b); e != api.ErrCode || !Same(v, api.Value{}) {
			t.Error(i, b, v, e)
		}
	}
}

// numerals returns the numerals of at most n digits over some bytes, with their numbers.
func numerals(alphabet []byte, n int) map[string]int {
	m := map[string]int{}
	if n == 0 {
		return m
	}
	above := numerals(alphabet, n-1)
	for _, c := range alphabet {
		if c < 128 {
			m[string([]byte{c})] = int(c)
			continue
		}
		for d, u := range above {
			if u > 0 {
				m[string([]byte{c})+d] = int(c) - 128 + 128*u
			}
		}
	}
	return m
}

// words returns the strings of n bytes over an alphabet.
func words(alphabet []byte, n int) []string {
	l := []string{""}
	for range n {
		var next []string
		for _, w := range l {
			for _, c := range alphabet {
				next = append(next, w+string([]byte{c}))
			}
		}
		l = next
	}
	return l
}

// rows returns the lists of at most so many encodings, of n bytes together at most, by their number.
func rows(known map[string]api.Value, many, n int) []map[string][]api.Value {
	l := []map[string][]api.Value{{"": nil}}
	for k := range many {
		next := map[string][]api.Value{}
		for b, row := range l[k] {
			for c, v := range known {
				if len(b)+len(c) <= n {
					next[b+c] = append(slices.Clone(row), v)
				}
			}
		}
		l = append(l, next)
	}
	return l
}

// encodings returns all encodings of at most n bytes over an alphabet, with their values.
func encodings(alphabet []byte, n int) map[string]api.Value {
	m := map[string]api.Value{}
	if n < 2 {
		return m
	}
	lists := rows(encodings(alphabet, n-2), n/2, n-2)
	for d, u := range numerals(alphabet, n-1) {
		if u%2 == 0 {
			m["\x01"+d] = num(u / 2)
		} else {
			m["\x01"+d] = num(-(u + 1) / 2)
		}
		if 1+len(d)+u <= n {
			for _, w := range words(alphabet, u) {
				m["\x02"+d+w] = str(w)
			}
		}
		if u >= len(lists) {
			continue
		}
		for b, row := range lists[u] {
			if 1+len(d)+len(b) <= n {
				m["\x03"+d+b] = list(row...)
			}
		}
	}
	return m
}

// Of all strings over some bytes, those decode that the table of the chapter makes, and no others.
func TestDecodeAll(t *testing.T) {
	alphabet := []byte{0, 1, 2, 3, 4, 127, 128, 255}
	longest := 6
	known := encodings(alphabet, longest)
	found := 0
	for n := range longest + 1 {
		for _, w := range words(alphabet, n) {
			v, e := Decode([]byte(w))
			want, ok := known[w]
			if ok != (e == api.OK) || !ok && e != api.ErrCode || !Same(v, want) {
				t.Fatal([]byte(w), v, e)
			}
			if ok {
				found++
			}
		}
	}
	if found == 0 || found != len(known) {
		t.Error(found, len(known))
	}
}

func TestSame(t *testing.T) {
	l := []api.Value{
		{}, num(0), num(1), num(-1), num(math.MinInt), str(""), str("a"), str("b"), str("ab"), list(), list(list()), list(str("")), list(num(0)), list(num(1)), list(num(1), num(1)), list(num(1), num(2)), list(num(2), num(1)), list(list(num(1))),
		{Kind: 4}, {Kind: -1, N: 1}, {N: 1}, {S: "a"}, {L: []api.Value{{}}}, {Kind: api.IntV, S: "a"}, {Kind: api.TextV, N: 1, S: "a"}, {Kind: api.ListV, N: 1}, list(api.Value{}), list(api.Value{Kind: 4}), nest(17, num(0)), nest(65535, num(0)), nest(65535, num(1)),
	}
	for i, a := range l {
		for k, b := range l {
			if Same(a, b) != (i == k) {
				t.Error(i, k)
			}
		}
	}
	if !Same(api.Value{Kind: api.ListV}, api.Value{Kind: api.ListV, L: []api.Value{}}) {
		t.Error("no elements, and an empty slice of them, are different")
	}
	if !Same(api.Value{L: []api.Value{}}, api.Value{}) || !Same(list(api.Value{L: []api.Value{}}), list(api.Value{})) {
		t.Error("nil and empty differ in a value that is not well-formed")
	}
	if !Same(list(num(7), str("x")), list(num(7), str("x"))) {
		t.Error("equal values that share no memory are different")
	}
}

// anyValue returns a value of at most so many lists within each other.
func anyValue(r *rand.Rand, lists int) api.Value {
	switch kind := r.Intn(3); {
	case kind == 0:
		return num(int(r.Uint64()) >> r.Intn(64))
	case kind == 1 || lists == 0:
		s := make([]byte, r.Intn(1<<r.Intn(9)))
		r.Read(s)
		return str(string(s))
	}
	var l []api.Value
	for range r.Intn(6) {
		l = append(l, anyValue(r, lists-1))
	}
	return list(l...)
}

// sample returns values that are all different.
func sample() []api.Value {
	var l []api.Value
	for _, p := range pairs() {
		l = append(l, p.v)
	}
	r := rand.New(rand.NewSource(1))
	for range 400 {
		v := anyValue(r, r.Intn(8))
		if !slices.ContainsFunc(l, func(x api.Value) bool { return Same(x, v) }) {
			l = append(l, v)
		}
	}
	return l
}

func TestThereAndBack(t *testing.T) {
	for i, v := range sample() {
		b, e := Encode(v)
		if e != api.OK {
			t.Fatal(i, e)
		}
		x, e := Decode(b)
		if e != api.OK || !Same(x, v) {
			t.Error(i, v, x, e)
		}
		for n := range b {
			if _, e := Decode(b[:n]); e != api.ErrCode {
				t.Error(i, "the beginning of an encoding decodes", n)
			}
		}
		if _, e := Decode(append(b[:len(b):len(b)], 0)); e != api.ErrCode {
			t.Error(i, "an encoding and a byte decode")
		}
	}
}

func TestPrefixes(t *testing.T) {
	var l [][]byte
	for _, v := range sample() {
		b, _ := Encode(v)
		l = append(l, b)
	}
	for i, a := range l {
		for k, b := range l {
			if i != k && bytes.HasPrefix(b, a) {
				t.Error(a, "is the beginning of", b)
			}
		}
	}
}

func TestSizeOfList(t *testing.T) {
	zeros := func(n int) api.Value { return list(slices.Repeat([]api.Value{num(0)}, n)...) }
	all := sample()
	for n := range len(all) {
		frame, e := Size(zeros(n))
		if e != api.OK {
			t.Fatal(n, e)
		}
		want := frame - 2*n
		l := all[:n]
		for i, v := range l {
			if Check(list(v)) != api.OK { // it is nested as deeply as is allowed
				l = slices.Concat(l[:i], []api.Value{num(i)}, l[i+1:])
			}
			s, _ := Size(l[i])
			want += s
		}
		if got, e := Size(list(l...)); e != api.OK || got != want {
			t.Error(n, got, want, e)
		}
	}
}

// Results stay as they are, whatever is done with the arguments afterwards.
func TestResultsStay(t *testing.T) {
	b := []byte{3, 2, 2, 2, 'a', 'b', 1, 5}
	v, _ := Decode(b)
	c, _ := Encode(v)
	clear(b)
	if want := list(str("ab"), num(-3)); !Same(v, want) {
		t.Error(v)
	}
	clear(v.L)
	if !bytes.Equal(c, []byte{3, 2, 2, 2, 'a', 'b', 1, 5}) {
		t.Error(c)
	}
}

func FuzzDecode(f *testing.F) {
	for _, p := range pairs() {
		f.Add(p.b)
	}
	f.Fuzz(func(t *testing.T, b []byte) {
		v, e := Decode(b)
		switch e {
		case api.OK:
			if x, e := Encode(v); e != api.OK || !bytes.Equal(x, b) {
				t.Error(b, v, x, e)
			}
		case api.ErrCode:
			if !Same(v, api.Value{}) {
				t.Error(b, v)
			}
		default:
			t.Error(b, e)
		}
	})
}
