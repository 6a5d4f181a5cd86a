package group

import (
	"math"
	"math/big"
	"math/rand"
	"slices"
	"strings"
	"testing"

	"chartroom/api"
	"chartroom/digest"
)

const (
	lastScalar = api.Q - 1
	greatest   = api.P - 2 // P - 1 is no element
)

// noElements are outside the numbers from 1 to P - 1 or, from 2 on, no squares. Some of them differ from an element by P.
var noElements = []int{
	0, -1, -2, -3, -4, 4 - api.P, -api.P, -api.P - 1, -api.Q, math.MinInt, math.MinInt + 1,
	api.P, api.P + 1, api.P + 4, 2*api.P - 2, 1 << 62, math.MaxInt - 1, math.MaxInt,
	2, 6, 7, 8, 10, 13, 1 << 61, 1234567890123456789, 3141592653589793238, api.P - 1, api.P - 3, api.P - 4, api.P - 9,
}

var noScalars = []int{-1, -2, -lastScalar, -api.Q, math.MinInt, math.MinInt + 1, api.Q, api.Q + 1, api.P - 1, api.P, 1 << 62, math.MaxInt - 1, math.MaxInt}

// exponents returns the scalars at the ends and in the middle, those near powers of 2, and others, by a rule.
func exponents() []int {
	l := []int{0, 1, 2, 3, 5, 10, lastScalar / 2, lastScalar/2 + 1, lastScalar - 1, lastScalar}
	for i := 6; i <= 60; i += 9 {
		l = append(l, 1<<i-1, 1<<i, 1<<i+1)
	}
	r := rand.New(rand.NewSource(4))
	for range 5 {
		l = append(l, r.Intn(api.Q))
	}
	return l
}

// elements returns those at the ends and in the middle, and n others: squares of numbers that follow a rule.
func elements(n int) []int {
	l := []int{1, 3, 4, 5, 9, 16, 25, 1 << 60, (api.P + 1) / 4, (api.P - 1) / 2, greatest - 4, greatest}
	r := rand.New(rand.NewSource(int64(n)))
	for range n {
		root := number(1 + r.Intn(api.P-1))
		l = append(l, modulo(root.Mul(root, root)))
	}
	return l
}

func number(a int) *big.Int { return big.NewInt(int64(a)) }

// modulo returns the number from 0 to P - 1 that equals x modulo P.
func modulo(x *big.Int) int { return int(x.Mod(x, number(api.P)).Int64()) }

// raised returns a to the power k modulo P.
func raised(a, k int) int { return modulo(new(big.Int).Exp(number(a), number(k), number(api.P))) }

// isSquare tells whether a number from 1 to P - 1 is a square modulo P, by quadratic reciprocity.
func isSquare(a int) bool { return big.Jacobi(number(a), number(api.P)) == 1 }

// good returns a function that takes the results of a call, which must be an element and no error.
func good(t *testing.T) func(c int, e api.Errno) int {
	return func(c int, e api.Errno) int {
		t.Helper()
		if e != api.OK || c < 1 || c >= api.P || !isSquare(c) {
			t.Fatal("result", c, "error", e)
		}
		return c
	}
}

// refused returns a function that takes the results of a call, which must be that error and 0.
func refused(t *testing.T, want api.Errno) func(c int, e api.Errno) {
	return func(c int, e api.Errno) {
		t.Helper()
		if e != want || c != 0 {
			t.Error("result", c, "error", e, "instead of", want)
		}
	}
}

func TestCheck(t *testing.T) {
	for _, a := range elements(20) {
		if e := Check(a); e != api.OK {
			t.Error(a, e)
		}
	}
	for _, a := range noElements {
		if e := Check(a); e != api.ErrGroup {
			t.Error(a, e)
		}
	}
	var small []int
	for a := range 37 {
		if Check(a) == api.OK {
			small = append(small, a)
		}
	}
	if !slices.Equal(small, []int{1, 3, 4, 5, 9, 11, 12, 14, 15, 16, 19, 20, 23, 25, 26, 27, 33, 34, 36}) {
		t.Error(small)
	}
}

// Of a number and the one with which it makes the sum P, exactly one is an element.
func TestCheckOfMany(t *testing.T) {
	r := rand.New(rand.NewSource(1))
	for i := range 3000 {
		a := i + 1
		if i >= 1000 {
			a += r.Intn(api.P >> (i % 62))
		}
		if a >= api.P {
			continue
		}
		one, other := Check(a), Check(api.P-a)
		if (one == api.OK) != isSquare(a) || (one == api.OK) == (other == api.OK) {
			t.Error(a, one, other)
		}
		if one+other != api.ErrGroup {
			t.Error(a, "has another error", one, other)
		}
	}
}

func TestMulKnown(t *testing.T) {
	ok := good(t)
	for i, x := range []struct{ a, b, product int }{
		{1, 1, 1}, {1, greatest, greatest}, {3, 5, 15}, {4, 4, 16}, {4, 9, 36},
		{greatest, greatest, 4},
		{greatest, 4, api.P - 8},
		{greatest, (api.P - 1) / 2, 1},
		{(api.P + 1) / 4, 4, 1},
		{(api.P + 1) / 4, 16, 4},
		{1 << 60, 4, 1 << 62 % api.P},
		{1 << 60, 1 << 60, 1441151880765531620},
		{4000000000000000000, 4000000000000000000, 214219653677446557},
	} {
		if ok(Mul(x.a, x.b)) != x.product || ok(Mul(x.b, x.a)) != x.product {
			t.Error(i)
		}
	}
}

// The library of the tests calculates with numbers of any length.
func TestMulOfMany(t *testing.T) {
	ok := good(t)
	l := elements(80)
	for _, a := range l {
		for _, b := range l {
			if c := ok(Mul(a, b)); c != modulo(new(big.Int).Mul(number(a), number(b))) {
				t.Error(a, b, c)
			}
		}
	}
}

func TestInvKnown(t *testing.T) {
	ok := good(t)
	for a, want := range map[int]int{
		1:                   1,
		4:                   (api.P + 1) / 4,
		9:                   3586866903221293486,
		36:                  3202559735019012041,
		1 << 60:             27936384777979380,
		4000000000000000000: 3210439204048380871,
		(api.P - 1) / 2:     greatest,
		greatest:            (api.P - 1) / 2,
	} {
		if c := ok(Inv(a)); c != want {
			t.Error(a, c)
		}
	}
	for _, a := range elements(100) {
		if c := ok(Inv(a)); c != modulo(new(big.Int).ModInverse(number(a), number(api.P))) {
			t.Error(a, c)
		}
	}
}

// No number but an element is multiplied or inverted, also where the product of two of them would be an element.
func TestNoElements(t *testing.T) {
	no := refused(t, api.ErrGroup)
	for _, a := range noElements {
		no(Inv(a))
		for _, b := range elements(3) {
			no(Mul(a, b))
			no(Mul(b, a))
		}
		for _, b := range noElements {
			no(Mul(a, b))
		}
	}
}

func TestExpKnown(t *testing.T) {
	ok := good(t)
	for i, x := range []struct{ a, k, want int }{
		{1, 0, 1}, {1, 1, 1}, {1, lastScalar, 1},
		{4, 0, 1}, {4, 1, 4}, {4, 2, 16}, {4, 3, 64}, {4, 30, 1 << 60}, {4, 31, 1 << 62 % api.P},
		{4, lastScalar, (api.P + 1) / 4},
		{4, 1234567890123456789, 3715551392808720830},
		{9, 1000000007, 128393946486664089},
		{1 << 60, 1234567890123456789, 3118493205950608722},
		{4000000000000000000, 3, 2981841264916859214},
		{4000000000000000000, lastScalar, 3210439204048380871},
		{greatest, 0, 1}, {greatest, 1, greatest}, {greatest, 2, 4}, {greatest, 3, api.P - 8},
		{greatest, lastScalar / 2, 2758828140385948265},
		{greatest, lastScalar, (api.P - 1) / 2},
	} {
		if c := ok(Exp(x.a, x.k)); c != x.want {
			t.Error(i, c)
		}
	}
}

func TestExpOfMany(t *testing.T) {
	ok := good(t)
	for _, a := range elements(20) {
		for _, k := range exponents() {
			if c := ok(Exp(a, k)); c != raised(a, k) {
				t.Error(a, k, c)
			}
		}
	}
}

// What is no element is refused first: Exp reports ErrGroup also if the exponent is no scalar.
func TestNoPowers(t *testing.T) {
	for _, a := range noElements {
		for _, k := range slices.Concat(exponents(), noScalars) {
			refused(t, api.ErrGroup)(Exp(a, k))
		}
	}
	for _, a := range elements(5) {
		for _, k := range noScalars {
			refused(t, api.ErrArg)(Exp(a, k))
		}
	}
}

func TestBase(t *testing.T) {
	ok := good(t)
	for k, want := range map[int]int{
		0: 1, 1: api.G, 2: 16, 3: 64, 30: 1 << 60, 31: 1 << 62 % api.P,
		1000000007:          3790408796427652416,
		1234567890123456789: 3715551392808720830,
		lastScalar / 2:      api.Q,
		lastScalar:          (api.P + 1) / 4,
	} {
		if c := ok(Base(k)); c != want {
			t.Error(k, c)
		}
	}
	for _, k := range exponents() {
		if ok(Base(k)) != raised(api.G, k) {
			t.Error(k)
		}
	}
	for _, k := range noScalars {
		refused(t, api.ErrArg)(Base(k))
	}
}

// The known scalars and points were calculated with another program.
func TestScalarsAndPointsKnown(t *testing.T) {
	var all []byte
	for i := range 256 {
		all = append(all, byte(i))
	}
	for i, x := range []struct {
		tag           string
		b             []byte
		scalar, point int
	}{
		{"", nil, 217214716844977819, 3515343075098847822},
		{"", []byte{}, 217214716844977819, 3515343075098847822},
		{"a", nil, 1095162683689187261, 2143815225323203951},
		{"", []byte("a"), 2115827170554507377, 3077150172785907572},
		{"a", []byte("b"), 345904693931100983, 738018325105577097},
		{"ab", nil, 1325644417988098431, 1001965870513249605},
		{"nonce", all, 1395634699682485670, 4244811647596759841},
		{strings.Repeat("t", 100), slices.Repeat([]byte{255}, 1000), 376386690500289447, 4263430468732575662},
		{"\x00\xff", []byte{0}, 616710391856407239, 2412918460252239218},
	} {
		if k, a := Scalar(x.tag, x.b), Point(x.tag, x.b); k != x.scalar || a != x.point {
			t.Error(i, k, a)
		}
	}
}

func TestScalarsAndPointsOfMany(t *testing.T) {
	seen := map[int]bool{}
	for i := range 1000 {
		tag, b := strings.Repeat("s", i%130), slices.Repeat([]byte{byte(i)}, i)
		d := digest.Tagged(tag, b)
		n := new(big.Int).SetBytes(d[:])
		k, a := Scalar(tag, b), Point(tag, b)
		if k < 1 || k > lastScalar || k != 1+int(new(big.Int).Mod(n, number(api.Q-1)).Int64()) {
			t.Error("Scalar", i, k)
		}
		root := new(big.Int).Mod(n, number(api.P-3))
		root.Add(root, number(2))
		if a == 1 || Check(a) != api.OK || a != modulo(root.Mul(root, root)) {
			t.Error("Point", i, a)
		}
		if seen[k] || seen[a] || k != Scalar(tag, b) || a != Point(tag, b) {
			t.Error(i, "is not determined by the tag and the bytes")
		}
		seen[k], seen[a] = true, true
	}
}

// numbered returns the digest with a number.
func numbered(n *big.Int) (d api.Digest) {
	n.FillBytes(d[:])
	return d
}

// No known bytes have digests with the numbers at the ends, or with those near multiples of what they are divided by.
func TestRemainders(t *testing.T) {
	all := new(big.Int).Lsh(number(1), 256)
	for _, m := range []int{api.Q - 1, api.P - 3} {
		for _, multiple := range []*big.Int{number(0), number(m), number(1 << 62), new(big.Int).Lsh(number(m), 100), new(big.Int).Sub(all, new(big.Int).Mod(all, number(m))), all} {
			for i := -3; i <= 3; i++ {
				n := new(big.Int).Add(multiple, number(i))
				if n.Sign() < 0 || n.BitLen() > 256 {
					continue
				}
				if rest := remainder(numbered(n), uint64(m)); rest != int(new(big.Int).Mod(n, number(m)).Int64()) {
					t.Error(m, n, rest)
				}
			}
		}
	}
}

func TestArgumentsStay(t *testing.T) {
	room := slices.Repeat([]byte{7}, 20)
	if Scalar("a", room[:10]) != Scalar("a", room[10:]) || Point("a", room[:10]) != Point("a", room[10:]) {
		t.Error("equal bytes lead to different results")
	}
	if !slices.Equal(room, slices.Repeat([]byte{7}, 20)) {
		t.Error("an argument was changed")
	}
}

// The product is commutative and associative, 1 is neutral, and inverses undo products.
func TestLaws(t *testing.T) {
	ok := good(t)
	l := elements(5)
	for _, a := range l {
		inverse := ok(Inv(a))
		if ok(Mul(a, 1)) != a || ok(Mul(1, a)) != a || ok(Mul(a, inverse)) != 1 || ok(Mul(inverse, a)) != 1 || ok(Inv(inverse)) != a {
			t.Error(a)
		}
		for _, b := range l {
			ab := ok(Mul(a, b))
			if ab != ok(Mul(b, a)) || ok(Mul(inverse, ab)) != b || ok(Inv(ab)) != ok(Mul(ok(Inv(b)), inverse)) {
				t.Error(a, b)
			}
			for _, c := range l {
				if ok(Mul(ab, c)) != ok(Mul(a, ok(Mul(b, c)))) {
					t.Error("associative", a, b, c)
				}
			}
		}
	}
}

// sumOf returns the sum of two scalars modulo Q.
func sumOf(k, m int) int { return (k + m) % api.Q }

// productOf returns the product of two scalars modulo Q.
func productOf(k, m int) int {
	x := new(big.Int).Mul(number(k), number(m))
	return int(x.Mod(x, number(api.Q)).Int64())
}

// Powers add and multiply their exponents modulo Q, and the power of a product is that of its factors.
func TestExponents(t *testing.T) {
	ok := good(t)
	for _, a := range elements(2) {
		for _, k := range exponents() {
			power := ok(Exp(a, k))
			for _, m := range exponents() {
				if ok(Mul(power, ok(Exp(a, m)))) != ok(Exp(a, sumOf(k, m))) {
					t.Error("sum", a, k, m)
				}
				if ok(Exp(power, m)) != ok(Exp(a, productOf(k, m))) {
					t.Error("product", a, k, m)
				}
			}
			if ok(Exp(ok(Mul(a, 9)), k)) != ok(Mul(power, ok(Exp(9, k)))) {
				t.Error("factors", a, k)
			}
		}
	}
}

// A power is the product of its factors, taken one after the other.
func TestFactors(t *testing.T) {
	ok := good(t)
	for _, a := range elements(5) {
		c := 1
		for k := range 150 {
			if ok(Exp(a, k)) != c {
				t.Error(a, k)
			}
			c = ok(Mul(c, a))
		}
	}
}

// The exponent Q - k leads to the inverse, and the inverse of an exponent modulo Q undoes it.
func TestExponentsUndone(t *testing.T) {
	ok := good(t)
	for _, a := range elements(10) {
		for _, k := range exponents()[1:] {
			power := ok(Exp(a, k))
			if ok(Exp(a, api.Q-k)) != ok(Inv(power)) {
				t.Error("inverse", a, k)
			}
			undo := int(new(big.Int).ModInverse(number(k), number(api.Q)).Int64())
			if ok(Exp(power, undo)) != a || ok(Exp(ok(Exp(a, undo)), k)) != a {
				t.Error("undone", a, k)
			}
		}
	}
}

func FuzzGroup(f *testing.F) {
	f.Add(1, 4, 0)
	f.Add(greatest, greatest, lastScalar)
	f.Add(0, 2, -1)
	f.Add(api.P, math.MinInt, api.Q)
	f.Fuzz(func(t *testing.T, a, b, k int) {
		for _, x := range []int{a, b} {
			if (Check(x) == api.OK) != (x > 0 && x < api.P && isSquare(x)) {
				t.Fatal(x)
			}
		}
		if Check(a) != api.OK || Check(b) != api.OK {
			refused(t, api.ErrGroup)(Mul(a, b))
			return
		}
		ok := good(t)
		if c := ok(Mul(a, b)); c != modulo(new(big.Int).Mul(number(a), number(b))) || ok(Mul(c, ok(Inv(b)))) != a {
			t.Error(a, b, c)
		}
		if k < 0 || k > lastScalar {
			refused(t, api.ErrArg)(Exp(a, k))
		} else if ok(Exp(a, k)) != raised(a, k) {
			t.Error(a, k)
		}
	})
}
