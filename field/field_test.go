package field

import (
	"math"
	"math/big"
	"math/rand"
	"slices"
	"testing"

	"chartroom/api"
)

const last = api.Q - 1

// noScalars are just outside the scalars, at the ends of int, and between.
var noScalars = []int{
	-1, -2, -last, -api.Q, -api.Q - 1, math.MinInt, math.MinInt + 1,
	api.Q, api.Q + 1, 1 << 61, 2*api.Q - 1, 2 * api.Q, 3 * api.Q, 1 << 62, math.MaxInt - 1, math.MaxInt,
}

// scalars returns those at the ends and in the middle, those near powers of 2, and n others, by a rule.
func scalars(n int) []int {
	l := []int{0, 1, 2, 3, 7, 5283, last / 2, last/2 + 1, last - 1, last}
	for i := 4; i <= 60; i += 7 {
		l = append(l, 1<<i-1, 1<<i, api.Q-1<<i)
	}
	return append(l, others(n)...)
}

func others(n int) (l []int) {
	r := rand.New(rand.NewSource(int64(n)))
	for range n {
		l = append(l, r.Intn(api.Q))
	}
	return l
}

// exponents are at the ends of int, near the number of scalars, and near powers of 2.
func exponents() []int {
	l := []int{0, 1, 2, 3, 5, 10, 61, last - 1, last, api.Q, api.Q + 1, 2 * last, math.MaxInt - 1, math.MaxInt}
	for i := 6; i <= 62; i += 8 {
		l = append(l, 1<<i-1, 1<<i, 1<<i+1)
	}
	return append(l, others(5)...)
}

func number(a int) *big.Int { return big.NewInt(int64(a)) }

// modulo returns the scalar that equals x modulo Q.
func modulo(x *big.Int) int { return int(x.Mod(x, number(api.Q)).Int64()) }

// good returns a function that takes the results of a call, which must be a scalar and no error.
func good(t *testing.T) func(c int, e api.Errno) int {
	return func(c int, e api.Errno) int {
		t.Helper()
		if e != api.OK || c < 0 || c > last {
			t.Fatal("result", c, "error", e)
		}
		return c
	}
}

// refused returns a function that takes the results of a call, which must be that error and 0.
func refused(t *testing.T, want api.Errno) func(c int, e api.Errno) {
	return func(c int, e api.Errno) {
		t.Helper()
		if e != want || c != 0 {
			t.Error("result", c, "error", e, "instead of", want)
		}
	}
}

func TestCheck(t *testing.T) {
	for _, a := range scalars(20) {
		if e := Check(a); e != api.OK {
			t.Error(a, e)
		}
	}
	for _, a := range noScalars {
		if e := Check(a); e != api.ErrArg {
			t.Error(a, e)
		}
	}
}

func TestSumsKnown(t *testing.T) {
	ok := good(t)
	for i, x := range []struct{ a, b, sum, difference, product int }{
		{0, 0, 0, 0, 0},
		{0, 1, 1, last, 0},
		{2, 3, 5, last, 6},
		{3, 2, 5, 1, 6},
		{last, 0, last, last, 0},
		{last, 1, 0, last - 1, last},
		{last, 2, 1, last - 2, last - 1},
		{1, last, 0, 2, last},
		{last, last, last - 1, 0, 1},
		{1152921504606844334, 1152921504606844334, last, 0, 1729382256910266502},
		{1152921504606844335, 1152921504606844335, 1, 0, 1729382256910266502},
		{1 << 30, 1 << 31, 3 << 30, api.Q - 1<<30, 5283},
		{1 << 60, 1 << 60, 5283, 0, 1729382256917244024},
		{1234567890123456789, 987654321098765432, 2222222211222222221, 246913569024691357, 1697838022321717221},
	} {
		if ok(Add(x.a, x.b)) != x.sum || ok(Sub(x.a, x.b)) != x.difference || ok(Mul(x.a, x.b)) != x.product {
			t.Error(i)
		}
	}
}

// The library of the tests calculates with numbers of any length.
func TestSumsOfMany(t *testing.T) {
	ok := good(t)
	l := scalars(100)
	for _, a := range l {
		for _, b := range l {
			x, y := number(a), number(b)
			if c := ok(Add(a, b)); c != modulo(new(big.Int).Add(x, y)) {
				t.Error(a, "+", b, c)
			}
			if c := ok(Sub(a, b)); c != modulo(new(big.Int).Sub(x, y)) {
				t.Error(a, "-", b, c)
			}
			if c := ok(Mul(a, b)); c != modulo(new(big.Int).Mul(x, y)) {
				t.Error(a, "*", b, c)
			}
		}
	}
}

func TestSumsOfNoScalars(t *testing.T) {
	no := refused(t, api.ErrArg)
	for _, a := range noScalars {
		for _, b := range slices.Concat(scalars(3), noScalars) {
			no(Add(a, b))
			no(Add(b, a))
			no(Sub(a, b))
			no(Sub(b, a))
			no(Mul(a, b))
			no(Mul(b, a))
		}
	}
}

func TestInv(t *testing.T) {
	ok := good(t)
	for a, want := range map[int]int{
		1:                   1,
		2:                   (api.Q + 1) / 2,
		3:                   768614336404562890,
		7:                   1647030720866920478,
		1234567890123456789: 914285066104473751,
		last:                last,
		last - 1:            (api.Q - 1) / 2,
	} {
		if c := ok(Inv(a)); c != want {
			t.Error(a, c)
		}
	}
	for _, a := range scalars(100)[1:] {
		if c := ok(Inv(a)); c != modulo(new(big.Int).ModInverse(number(a), number(api.Q))) {
			t.Error(a, c)
		}
	}
	refused(t, api.ErrZero)(Inv(0))
	for _, a := range noScalars {
		refused(t, api.ErrArg)(Inv(a))
	}
}

func TestPow(t *testing.T) {
	ok := good(t)
	for i, x := range []struct{ a, n, want int }{
		{0, 0, 1}, {0, 1, 0}, {0, last, 0}, {0, math.MaxInt, 0},
		{1, 0, 1}, {1, math.MaxInt, 1},
		{2, 1, 2}, {2, 10, 1024}, {2, 60, 1 << 60}, {2, 61, 5283}, {2, 62, 10566},
		{3, 1000000007, 1914407652481945271},
		{last, 0, 1}, {last, 1, last}, {last, 2, 1}, {last, math.MaxInt - 1, 1}, {last, math.MaxInt, last},
		{1234567890123456789, math.MaxInt, 793464939551233551},
	} {
		if c := ok(Pow(x.a, x.n)); c != x.want {
			t.Error(i, c)
		}
	}
	for _, a := range scalars(20) {
		for _, n := range exponents() {
			if c := ok(Pow(a, n)); c != modulo(new(big.Int).Exp(number(a), number(n), number(api.Q))) {
				t.Error(a, n, c)
			}
		}
	}
}

// A power is the product of its factors, taken one after the other.
func TestPowFactors(t *testing.T) {
	ok := good(t)
	for _, a := range scalars(10) {
		c := 1
		for n := range 200 {
			if ok(Pow(a, n)) != c {
				t.Error(a, n)
			}
			c = ok(Mul(c, a))
		}
	}
}

func TestNoPowers(t *testing.T) {
	no := refused(t, api.ErrArg)
	for _, n := range []int{-1, -2, -61, -last, -api.Q, math.MinInt, math.MinInt + 1} {
		for _, a := range slices.Concat(scalars(3), noScalars) {
			no(Pow(a, n))
		}
	}
	for _, a := range noScalars {
		for _, n := range exponents() {
			no(Pow(a, n))
		}
	}
}

func TestEvalKnown(t *testing.T) {
	ok := good(t)
	for i, x := range []struct {
		coefficients []int
		x, want      int
	}{
		{nil, 0, 0},
		{nil, last, 0},
		{[]int{}, 5, 0},
		{[]int{0}, 5, 0},
		{[]int{4}, 0, 4},
		{[]int{last}, last, last},
		{[]int{3, 0, 1}, 5, 28},
		{[]int{1, 0, 3}, 5, 76},
		{[]int{3, 0, 1, 0, 0}, 5, 28},
		{[]int{3, 7, 9}, 0, 3},
		{[]int{3, 7, 9}, 1, 19},
		{[]int{3, 7, 9}, last, 5},
		{[]int{1, 1}, last, 0},
		{[]int{0, 0, last}, last, last},
		{[]int{1, 2, 3, 4, 5}, 1234567890123456789, 46214397800918743},
	} {
		if y := ok(Eval(x.coefficients, x.x)); y != x.want {
			t.Error(i, y)
		}
	}
}

// terms returns the sum of the terms, each with a power of its own.
func terms(coefficients []int, x int) int {
	y, power := new(big.Int), number(1)
	for _, c := range coefficients {
		y.Add(y, new(big.Int).Mul(number(c), power))
		power.Mul(power, number(x)).Mod(power, number(api.Q))
	}
	return modulo(y)
}

func TestEvalOfMany(t *testing.T) {
	ok := good(t)
	for _, coefficients := range [][]int{{last}, {5, last}, {last, last, last, last}, others(2), others(3), others(64), scalars(0), others(2000)} {
		for _, x := range scalars(10) {
			if y := ok(Eval(coefficients, x)); y != terms(coefficients, x) {
				t.Error(len(coefficients), x, y)
			}
		}
	}
}

func TestEvalOfNoScalars(t *testing.T) {
	no := refused(t, api.ErrArg)
	for _, a := range noScalars {
		for n := range 5 {
			no(Eval(others(n), a))
			for i := range n {
				coefficients := others(n)
				coefficients[i] = a
				no(Eval(coefficients, 0))
				no(Eval(coefficients, 2))
				no(Eval(coefficients, a))
			}
		}
	}
}

// Sums and products are commutative, associative and distributive.
func TestLaws(t *testing.T) {
	ok := good(t)
	l := scalars(5)
	for _, a := range l {
		for _, b := range l {
			ab, product := ok(Add(a, b)), ok(Mul(a, b))
			if ab != ok(Add(b, a)) || product != ok(Mul(b, a)) {
				t.Error(a, b)
			}
			for _, c := range l {
				if ok(Add(ab, c)) != ok(Add(a, ok(Add(b, c)))) || ok(Mul(product, c)) != ok(Mul(a, ok(Mul(b, c)))) {
					t.Error("associative", a, b, c)
				}
				if ok(Mul(ab, c)) != ok(Add(ok(Mul(a, c)), ok(Mul(b, c)))) {
					t.Error("distributive", a, b, c)
				}
			}
		}
	}
}

// 0 and 1 are neutral, differences undo sums, and sums undo differences.
func TestDifferences(t *testing.T) {
	ok := good(t)
	for _, a := range scalars(30) {
		if ok(Add(a, 0)) != a || ok(Sub(a, 0)) != a || ok(Mul(a, 1)) != a || ok(Sub(a, a)) != 0 || ok(Mul(a, 0)) != 0 {
			t.Error(a)
		}
		for _, b := range scalars(30) {
			if ok(Sub(ok(Add(a, b)), b)) != a || ok(Add(ok(Sub(a, b)), b)) != a {
				t.Error(a, b)
			}
			if ok(Add(ok(Sub(a, b)), ok(Sub(b, a)))) != 0 {
				t.Error(a, b, "opposite")
			}
		}
	}
}

// Every scalar but 0 has exactly one inverse: no other one leads to the product 1, and the inverse of the inverse is the scalar.
func TestInverses(t *testing.T) {
	ok := good(t)
	l := append(scalars(100)[1:], 4, 5, 6)
	slices.Sort(l)
	l = slices.Compact(l)
	from := map[int]int{}
	for _, a := range l {
		c := ok(Inv(a))
		if ok(Mul(a, c)) != 1 || ok(Mul(c, a)) != 1 || ok(Inv(c)) != a {
			t.Error(a, c)
		}
		if b, seen := from[c]; seen {
			t.Error(a, b, "have the same inverse")
		}
		from[c] = a
		for _, b := range l {
			if (ok(Mul(a, b)) == 1) != (b == c) {
				t.Error(a, b)
			}
			if ok(Mul(ok(Mul(a, b)), ok(Inv(b)))) != a {
				t.Error(a, b, "the inverse does not undo the product")
			}
		}
	}
}

// Powers add their exponents, and the power by Q - 1 is 1 for every scalar but 0.
func TestPowersAdd(t *testing.T) {
	ok := good(t)
	for _, a := range scalars(5) {
		for _, m := range exponents() {
			for _, n := range exponents() {
				if m <= math.MaxInt-n && ok(Mul(ok(Pow(a, m)), ok(Pow(a, n)))) != ok(Pow(a, m+n)) {
					t.Error(a, m, n)
				}
			}
		}
	}
	for _, a := range scalars(100)[1:] {
		if ok(Pow(a, last)) != 1 || ok(Pow(a, api.Q)) != a || ok(Mul(ok(Pow(a, last-1)), a)) != 1 {
			t.Error(a)
		}
	}
}

// added returns the sum of two polynomials.
func added(t *testing.T, p, q []int) (l []int) {
	for i := range max(len(p), len(q)) {
		c := 0
		if i < len(p) {
			c = p[i]
		}
		if i < len(q) {
			c = good(t)(Add(c, q[i]))
		}
		l = append(l, c)
	}
	return l
}

// times returns the product of a polynomial with x - r.
func times(t *testing.T, p []int, r int) []int {
	l := append([]int{0}, p...)
	for i, c := range p {
		l[i] = good(t)(Sub(l[i], good(t)(Mul(c, r))))
	}
	return l
}

func TestPolynomialsAdd(t *testing.T) {
	ok := good(t)
	for _, p := range [][]int{nil, {0}, {last}, {1, last}, others(2), others(9), others(64)} {
		for _, q := range [][]int{nil, {1}, {last, 1}, others(3), others(10), others(63)} {
			for _, x := range scalars(3) {
				if ok(Add(ok(Eval(p, x)), ok(Eval(q, x)))) != ok(Eval(added(t, p, q), x)) {
					t.Error(p, q, x)
				}
			}
		}
	}
}

func TestFactors(t *testing.T) {
	ok := good(t)
	for _, p := range [][]int{nil, {1}, {last, 3}, others(2), others(9), others(63)} {
		for _, r := range scalars(10) {
			product := times(t, p, r)
			if ok(Eval(product, r)) != 0 {
				t.Error(p, r)
			}
			for _, x := range scalars(1) {
				if ok(Eval(product, x)) != ok(Mul(ok(Eval(p, x)), ok(Sub(x, r)))) {
					t.Error(p, r, x)
				}
			}
		}
	}
}

func TestCoefficientsStay(t *testing.T) {
	room := others(20)
	for range 2 {
		if good(t)(Eval(room[:10], 3)) != terms(others(20)[:10], 3) {
			t.Error("another value")
		}
	}
	refused(t, api.ErrArg)(Eval(room[:10], api.Q))
	if !slices.Equal(room, others(20)) {
		t.Error("an argument was changed")
	}
}

func FuzzField(f *testing.F) {
	f.Add(0, 0, 0)
	f.Add(last, last, math.MaxInt)
	f.Add(api.Q, -1, -1)
	f.Fuzz(func(t *testing.T, a, b, n int) {
		if Check(a) != api.OK || Check(b) != api.OK {
			refused(t, api.ErrArg)(Add(a, b))
			refused(t, api.ErrArg)(Mul(a, b))
			return
		}
		ok := good(t)
		if ok(Sub(ok(Add(a, b)), b)) != a || ok(Mul(a, b)) != modulo(new(big.Int).Mul(number(a), number(b))) {
			t.Error(a, b)
		}
		if n >= 0 && ok(Pow(a, n)) != modulo(new(big.Int).Exp(number(a), number(n), number(api.Q))) {
			t.Error(a, n)
		}
		if c, e := Inv(a); a != 0 && (e != api.OK || ok(Mul(a, c)) != 1) {
			t.Error(a, c, e)
		}
	})
}
