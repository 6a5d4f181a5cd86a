package shamir

import (
	"crypto/sha256"
	"encoding/binary"
	"math"
	"math/big"
	"math/bits"
	"math/rand"
	"slices"
	"testing"

	"chartroom/api"
)

// counting returns the key with the bytes 0, 1 .. 31.
func counting() (k api.Key) {
	for i := range k {
		k[i] = byte(i)
	}
	return k
}

// full returns the key whose bits are all 1.
func full() (k api.Key) {
	for i := range k {
		k[i] = 255
	}
	return k
}

// shares returns shares from places and values, in turn.
func shares(l ...int) (x []api.Share) {
	for i := 0; i < len(l); i += 2 {
		x = append(x, api.Share{At: l[i], Y: l[i+1]})
	}
	return x
}

// everywhere returns 64 shares, by a rule.
func everywhere(rule func(at int) int) (l []api.Share) {
	for at := 1; at <= 64; at++ {
		l = append(l, api.Share{At: at, Y: rule(at)})
	}
	return l
}

// scattered returns n shares at places, and with values, that a source of numbers chooses.
func scattered(r *rand.Rand, n int) (l []api.Share) {
	at := r.Perm(64)[:n]
	slices.Sort(at)
	for _, x := range at {
		l = append(l, api.Share{At: x + 1, Y: r.Intn(api.Q)})
	}
	return l
}

// placed returns a share with another place, by its index.
func placed(l []api.Share, i, at int) []api.Share {
	l = slices.Clone(l)
	l[i].At = at
	return l
}

// valued returns a share with another value, by its index.
func valued(l []api.Share, i, y int) []api.Share {
	l = slices.Clone(l)
	l[i].Y = y
	return l
}

// with returns shares and another one, in order.
func with(l []api.Share, at, y int) []api.Share {
	i, _ := slices.BinarySearchFunc(l, at, func(s api.Share, at int) int { return s.At - at })
	return slices.Insert(slices.Clone(l), i, api.Share{At: at, Y: y})
}

// subset returns the shares whose bits are 1.
func subset(l []api.Share, mask uint) (x []api.Share) {
	for i, s := range l {
		if mask>>i&1 == 1 {
			x = append(x, s)
		}
	}
	return x
}

// chosen returns n of the shares, in order.
func chosen(r *rand.Rand, l []api.Share, n int) (x []api.Share) {
	at := r.Perm(len(l))[:n]
	slices.Sort(at)
	for _, i := range at {
		x = append(x, l[i])
	}
	return x
}

// tagged returns the hash of parts under a tag, by the hash of the test library.
func tagged(tag string, parts ...[]byte) []byte {
	first := sha256.Sum256([]byte(tag))
	all := first[:]
	for _, p := range parts {
		all = append(all, p...)
	}
	d := sha256.Sum256(all)
	return d[:]
}

// drawn returns the coefficient i that a seed leads to, without derive.
func drawn(seed api.Key, i int) int {
	label := append([]byte{2, 5}, "share"...)
	one := append([]byte{3, 1}, label...)
	two := binary.AppendVarint(append(append([]byte{3, 2}, label...), 1), int64(i))
	d := tagged("scalar", tagged("derive", tagged("derive", seed[:], two), one))
	n := new(big.Int).SetBytes(d)
	return 1 + int(n.Mod(n, big.NewInt(api.Q-1)).Int64())
}

// raised returns the value of a polynomial modulo Q, by powers of any length.
func raised(c []int, x int) int {
	sum := new(big.Int)
	for i, n := range c {
		p := new(big.Int).Exp(big.NewInt(int64(x)), big.NewInt(int64(i)), nil)
		sum.Add(sum, p.Mul(p, big.NewInt(int64(n))))
	}
	return int(sum.Mod(sum, big.NewInt(api.Q)).Int64())
}

// parted returns what Split should return.
func parted(secret, need, many int, seed api.Key) (l []api.Share) {
	c := []int{secret}
	for i := 1; i < need; i++ {
		c = append(c, drawn(seed, i))
	}
	for at := 1; at <= many; at++ {
		l = append(l, api.Share{At: at, Y: raised(c, at)})
	}
	return l
}

// newton returns the coefficients of the polynomial through shares, the first one of 1, the next of the difference to the first place, then of the product with that to the second one, and so on. They are differences, divided by differences of places.
func newton(l []api.Share) (c []*big.Int) {
	q := big.NewInt(api.Q)
	for _, s := range l {
		c = append(c, big.NewInt(int64(s.Y)))
	}
	for order := 1; order < len(l); order++ {
		for i := len(l) - 1; i >= order; i-- {
			d := big.NewInt(int64(l[i].At - l[i-order].At))
			c[i].Sub(c[i], c[i-1])
			c[i].Mod(c[i].Mul(c[i], d.ModInverse(d, q)), q)
		}
	}
	return c
}

// reached returns the value at x of the polynomial through shares.
func reached(l []api.Share, x int) int {
	q, y := big.NewInt(api.Q), new(big.Int)
	c := newton(l)
	for i := len(l) - 1; i >= 0; i-- {
		y.Mul(y, big.NewInt(int64(x-l[i].At)))
		y.Mod(y.Add(y, c[i]), q)
	}
	return int(y.Int64())
}

// needed returns how many coefficients the polynomial through shares has, without those 0 at the end; at least 1.
func needed(l []api.Share) int {
	c := newton(l)
	n := len(c)
	for n > 1 && c[n-1].Sign() == 0 {
		n--
	}
	return n
}

// plusQ returns a sum modulo Q.
func plusQ(a, b int) int {
	n := new(big.Int).Add(big.NewInt(int64(a)), big.NewInt(int64(b)))
	return int(n.Mod(n, big.NewInt(api.Q)).Int64())
}

func splitOf(t *testing.T, secret, need, many int, seed api.Key) []api.Share {
	t.Helper()
	l, e := Split(secret, need, many, seed)
	if e != api.OK || len(l) != many || Check(l) != api.OK {
		t.Fatal("Split", secret, need, many, e)
	}
	return l
}

func joinOf(t *testing.T, l []api.Share) int {
	t.Helper()
	n, e := Join(l)
	if e != api.OK {
		t.Fatal("Join", l, e)
	}
	return n
}

func fitsOf(t *testing.T, l []api.Share, need int) bool {
	t.Helper()
	ok, e := Fits(l, need)
	if e != api.OK {
		t.Fatal("Fits", l, need, e)
	}
	return ok
}

func sumOf(t *testing.T, a, b []api.Share) []api.Share {
	t.Helper()
	l, e := Sum(a, b)
	if e != api.OK {
		t.Fatal("Sum", a, b, e)
	}
	return l
}

// refuse checks that no function accepts shares.
func refuse(t *testing.T, name string, l []api.Share) {
	t.Helper()
	if e := Check(l); e != api.ErrShare {
		t.Error("Check", name, e)
	}
	if n, e := Join(l); e != api.ErrShare || n != 0 {
		t.Error("Join", name, n, e)
	}
	for _, need := range []int{1, 64, 0, 65, math.MinInt} {
		if ok, e := Fits(l, need); e != api.ErrShare || ok {
			t.Error("Fits", name, need, ok, e)
		}
	}
	for i, x := range [][2][]api.Share{{l, l}, {l, shares(1, 1)}, {shares(1, 1), l}, {l, nil}, {nil, l}} {
		if s, e := Sum(x[0], x[1]); e != api.ErrShare || len(s) != 0 {
			t.Error("Sum", name, i, s, e)
		}
	}
}

func TestCheckAccepts(t *testing.T) {
	zero := func(at int) int { return 0 }
	for i, l := range [][]api.Share{
		shares(1, 0),
		shares(1, api.Q-1),
		shares(64, 0),
		shares(64, api.Q-1),
		shares(1, 5, 64, 5),
		shares(63, 2, 64, 1),
		shares(1, 3, 2, 2, 3, 1),
		shares(2, 0, 5, 0, 6, 0),
		everywhere(zero),
		everywhere(zero)[1:],
		everywhere(func(at int) int { return api.Q - at }),
	} {
		if e := Check(l); e != api.OK {
			t.Error(i, e)
		}
	}
}

func TestCheckRefuses(t *testing.T) {
	all := everywhere(func(at int) int { return at })
	for name, l := range map[string][]api.Share{
		"none":             {},
		"nil":              nil,
		"before the first": shares(0, 5),
		"after the last":   shares(65, 5),
		"negative":         shares(-1, 5),
		"least":            shares(math.MinInt, 5),
		"greatest":         shares(math.MaxInt, 5),
		"one by 2^32":      shares(1<<32+1, 5),
		"twice":            shares(2, 5, 2, 5),
		"twice, late":      shares(1, 5, 2, 5, 2, 6),
		"back":             shares(2, 5, 1, 5),
		"back, late":       shares(1, 5, 3, 5, 2, 5),
		"from 0 on":        shares(0, 5, 1, 5, 2, 5),
		"up to 65":         shares(63, 5, 64, 5, 65, 5),
		"65 shares":        append(slices.Clone(all), api.Share{At: 65, Y: 0}),
		"65, from 0":       append(shares(0, 0), all...),
		"65, twice":        append(slices.Clone(all), api.Share{At: 64, Y: 64}),
		"128 shares":       append(slices.Clone(all), all...),
		"Q":                shares(1, api.Q),
		"below 0":          shares(1, -1),
		"Q, late":          shares(1, 5, 2, api.Q),
		"below 0, first":   shares(1, -1, 2, 5),
		"P":                shares(1, api.P),
		"most negative":    shares(1, math.MinInt),
		"most positive":    shares(1, math.MaxInt),
		"1 - Q":            shares(1, 1-api.Q),
	} {
		refuse(t, name, l)
	}
}

// Each one of many shares is examined.
func TestCheckEach(t *testing.T) {
	all := everywhere(func(at int) int { return api.Q - at })
	for i := range all {
		for _, at := range []int{i, i + 2, 0, -1, 65, math.MinInt, math.MaxInt} {
			if l := placed(all, i, at); Check(l) != api.ErrShare {
				t.Error("place", i, at)
			}
		}
		for _, y := range []int{-1, api.Q, api.Q + 1, math.MinInt, math.MaxInt} {
			if l := valued(all, i, y); Check(l) != api.ErrShare {
				t.Error("value", i, y)
			}
		}
	}
}

// The known shares were calculated with another program.
func TestSplitKnown(t *testing.T) {
	for i, x := range []struct {
		secret, need, many int
		seed               api.Key
		want               []api.Share
	}{
		{7, 1, 3, api.Key{}, shares(1, 7, 2, 7, 3, 7)},
		{7, 1, 3, full(), shares(1, 7, 2, 7, 3, 7)},
		{0, 1, 1, counting(), shares(1, 0)},
		{7, 2, 3, api.Key{}, shares(1, 143797188334524811, 2, 287594376669049615, 3, 431391565003574419)},
		{0, 2, 2, api.Key{}, shares(1, 143797188334524804, 2, 287594376669049608)},
		{api.Q - 1, 3, 5, counting(), shares(1, 107748310266180200, 2, 1927538535838031369, 3, 847684658288176168, 4, 1479872696043991935, 5, 1518259639891790001)},
		{1234567890123456789, 4, 4, full(), shares(1, 1452263299401943577, 2, 1189625941862949219, 3, 271787802956622917, 4, 829723877346802542)},
		{0, 5, 6, full(), shares(1, 2127654101459334205, 2, 538438006855098405, 3, 1558235371378354751, 4, 2011706241431975346, 5, 751502100699085590, 6, 964108879356752849)},
	} {
		if l := splitOf(t, x.secret, x.need, x.many, x.seed); !slices.Equal(l, x.want) {
			t.Error(i, l)
		}
	}
	l := splitOf(t, 1<<60, 64, 64, counting())
	for at, y := range map[int]int{1: 870280191354755138, 2: 280337891039741619, 32: 1593392902360341698, 63: 1763569711365240529, 64: 2040309455558876888} {
		if l[at-1] != (api.Share{At: at, Y: y}) {
			t.Error(l[at-1])
		}
	}
}

func TestSplitOfMany(t *testing.T) {
	seeds := []api.Key{{}, {31: 1}, counting(), full()}
	secrets := []int{0, 1, 7, api.Q / 2, 1 << 60, api.Q - 1}
	for many := 1; many <= 64; many++ {
		for need := 1; need <= many; need++ {
			if many > 6 && many < 62 && need%9 != 0 {
				continue
			}
			secret, seed := secrets[(many+need)%len(secrets)], seeds[(many+2*need)%len(seeds)]
			if l := splitOf(t, secret, need, many, seed); !slices.Equal(l, parted(secret, need, many, seed)) {
				t.Error(secret, need, many, l)
			}
		}
	}
}

func TestSplitRefuses(t *testing.T) {
	for _, x := range []struct {
		secret, need, many int
		e                  api.Errno
	}{
		{-1, 1, 1, api.ErrArg},
		{-1, 0, 0, api.ErrArg},
		{-1, 2, 1, api.ErrArg},
		{api.Q, 1, 1, api.ErrArg},
		{api.Q, 1, 65, api.ErrArg},
		{api.Q + 1, 3, 5, api.ErrArg},
		{api.P, 3, 5, api.ErrArg},
		{math.MinInt, math.MinInt, math.MinInt, api.ErrArg},
		{math.MaxInt, math.MaxInt, math.MaxInt, api.ErrArg},
		{0, 0, 0, api.ErrShare},
		{0, 0, 1, api.ErrShare},
		{0, 1, 0, api.ErrShare},
		{0, -1, 1, api.ErrShare},
		{0, -1, -1, api.ErrShare},
		{0, 2, 1, api.ErrShare},
		{5, 64, 63, api.ErrShare},
		{5, 65, 64, api.ErrShare},
		{5, 65, 65, api.ErrShare},
		{api.Q - 1, 1, 65, api.ErrShare},
		{5, 64, 65, api.ErrShare},
		{5, math.MinInt, 1, api.ErrShare},
		{5, 1, math.MinInt, api.ErrShare},
		{5, math.MinInt, math.MaxInt, api.ErrShare},
		{5, math.MaxInt, 64, api.ErrShare},
		{5, 1, math.MaxInt, api.ErrShare},
		{5, math.MaxInt, math.MaxInt, api.ErrShare},
		{5, 1<<32 + 1, 1<<32 + 1, api.ErrShare},
	} {
		if l, e := Split(x.secret, x.need, x.many, counting()); e != x.e || len(l) != 0 {
			t.Error(x, l, e)
		}
	}
}

func TestJoinKnown(t *testing.T) {
	for i, x := range []struct {
		l    []api.Share
		want int
	}{
		{shares(64, 5), 5},
		{shares(1, 0), 0},
		{shares(30, 2218901276321861605), 2218901276321861605},
		{shares(1, 9, 2, 11), 7},
		{shares(2, 11, 64, 135), 7},
		{shares(1, 9, 2, 11, 3, 13), 7},
		{shares(1, 9, 2, 11, 3, 14), 8},
		{shares(1, api.Q-1, 2, api.Q-2), 0},
		{shares(1, 0, 2, 1), api.Q - 1},
		{shares(1, 3, 2, 7, 3, 13), 1},
		{shares(17, 1625197187341227942, 49, 196423852659904688), 1375426704859692128},
		{shares(18, 1480047849341514281, 27, 1058690373234283633, 32, 1044852252562842089), 1743723363169627145},
		{shares(25, 1118563252682212820, 50, 1750190880543959572, 52, 1616769056308602480, 64, 1199448401138868034), 1332904042735195320},
		{shares(8, 595730014255178730, 25, 2286479445929751443, 31, 145472598806989850, 47, 1430009946978195411, 53, 869775823540599203, 58, 1523800606913077059, 59, 780386255033378028), 1331807604713509941},
		{shares(2, 9, 5, 243, 64, 1823424120790358866), 528180409747201913},
		{everywhere(func(at int) int { return at * at * at * at }), 0},
		{everywhere(func(at int) int { return api.Q - at }), 0},
		{everywhere(func(at int) int { return api.Q - 1 }), api.Q - 1},
		{everywhere(func(at int) int { return at / 64 }), api.Q - 1},
	} {
		if n := joinOf(t, x.l); n != x.want {
			t.Error(i, n)
		}
	}
}

// The shares 1 of a single place are joined to the value at 0 of the polynomial that is 0 at the other ones.
func TestJoinOfOne(t *testing.T) {
	for n := 1; n <= 62; n++ {
		want, lower := new(big.Int).Binomial(int64(n), 1), int64(n)
		for at := 1; at <= n; at++ {
			l := everywhere(func(x int) int { return 0 })[:n]
			l[at-1].Y = 1
			// The product of all -j, divided by that of all at - j, is a binomial coefficient, with a sign.
			want.Binomial(lower, int64(at))
			if at%2 == 0 {
				want.Neg(want)
			}
			if got := joinOf(t, l); got != int(want.Mod(want, big.NewInt(api.Q)).Int64()) {
				t.Error(n, at, got)
			}
		}
	}
}

func TestJoinOfMany(t *testing.T) {
	r := rand.New(rand.NewSource(1))
	for n := 1; n <= 64; n++ {
		for range 5 {
			l := scattered(r, n)
			if got := joinOf(t, l); got != reached(l, 0) {
				t.Error(l, got)
			}
		}
	}
}

func TestFitsKnown(t *testing.T) {
	squares := everywhere(func(at int) int { return 1 + at + at*at })
	for i, x := range []struct {
		l    []api.Share
		need int
		want bool
	}{
		{shares(1, 9), 1, true},
		{shares(64, 9), 64, true},
		{shares(1, 9, 2, 9), 1, true},
		{shares(1, 9, 2, 10), 1, false},
		{shares(1, 9, 2, 11), 1, false},
		{shares(1, 9, 2, 11), 2, true},
		{shares(1, 9, 2, 11, 3, 13), 1, false},
		{shares(1, 9, 2, 11, 3, 13), 2, true},
		{shares(1, 9, 2, 11, 3, 14), 2, false},
		{shares(1, 9, 2, 11, 3, 14), 3, true},
		{shares(1, 9, 2, 11, 3, 14), 64, true},
		{shares(1, api.Q-1, 2, 0, 3, 1), 2, true},
		{shares(3, 9, 4, 9, 5, 9, 64, 10), 1, false},
		{shares(3, 9, 4, 9, 5, 9, 64, 10), 3, false},
		{shares(3, 9, 4, 9, 5, 9, 64, 10), 4, true},
		{squares, 1, false},
		{squares, 2, false},
		{squares, 3, true},
		{squares, 4, true},
		{squares, 63, true},
		{squares, 64, true},
		{valued(squares, 0, 4), 3, false},
		{valued(squares, 63, 4), 62, false},
		{valued(squares, 63, 4), 63, false},
		{valued(squares, 63, 4), 64, true},
		{everywhere(func(at int) int { return 0 }), 1, true},
		{everywhere(func(at int) int { return at / 64 }), 1, false},
		{everywhere(func(at int) int { return at / 64 }), 63, false},
	} {
		if ok := fitsOf(t, x.l, x.need); ok != x.want {
			t.Error(i, ok)
		}
	}
}

func TestFitsOfMany(t *testing.T) {
	r := rand.New(rand.NewSource(2))
	check := func(l []api.Share) {
		t.Helper()
		least := needed(l)
		for need := 1; need <= 64; need++ {
			if fitsOf(t, l, need) != (need >= least) {
				t.Error(l, need, least)
			}
		}
	}
	for _, n := range []int{1, 2, 3, 4, 5, 8, 20, 40} {
		check(scattered(r, n))
		for need := 1; need <= n; need += 1 + n/7 {
			c := make([]int, need)
			for i := range c {
				c[i] = r.Intn(api.Q)
			}
			l := scattered(r, n)
			for i := range l {
				l[i].Y = raised(c, l[i].At)
			}
			check(l)
			check(valued(l, r.Intn(n), r.Intn(api.Q)))
		}
	}
}

func TestFitsRefuses(t *testing.T) {
	for _, l := range [][]api.Share{shares(1, 9), shares(1, 9, 2, 11, 3, 14), everywhere(func(at int) int { return at })} {
		for _, need := range []int{0, -1, -64, 65, 66, 128, 1 << 32, 1<<32 + 1, math.MinInt, math.MaxInt} {
			if ok, e := Fits(l, need); e != api.ErrArg || ok {
				t.Error(len(l), need, ok, e)
			}
		}
		for _, need := range []int{1, 2, 63, 64} {
			if _, e := Fits(l, need); e != api.OK {
				t.Error(len(l), need, e)
			}
		}
	}
}

func TestSumKnown(t *testing.T) {
	for i, x := range []struct {
		a, b, want []api.Share
	}{
		{shares(1, 9, 2, 11), shares(1, 9, 2, 11), shares(1, 18, 2, 22)},
		{shares(1, 0), shares(1, 0), shares(1, 0)},
		{shares(3, api.Q-1), shares(3, 1), shares(3, 0)},
		{shares(3, api.Q-1), shares(3, 2), shares(3, 1)},
		{shares(64, api.Q-1), shares(64, api.Q-1), shares(64, api.Q-2)},
		{shares(1, 5, 7, api.Q-3, 64, 0), shares(1, api.Q-5, 7, 2, 64, 4), shares(1, 0, 7, api.Q-1, 64, 4)},
		{everywhere(func(at int) int { return at }), everywhere(func(at int) int { return api.Q - at }), everywhere(func(at int) int { return 0 })},
	} {
		if l := sumOf(t, x.a, x.b); !slices.Equal(l, x.want) {
			t.Error(i, l)
		}
		if l := sumOf(t, x.b, x.a); !slices.Equal(l, x.want) {
			t.Error("exchanged", i, l)
		}
	}
}

func TestSumRefuses(t *testing.T) {
	all := everywhere(func(at int) int { return at })
	for i, x := range [][2][]api.Share{
		{shares(1, 9), shares(2, 9)},
		{shares(1, 9), shares(1, 9, 2, 9)},
		{shares(2, 9), shares(1, 9, 2, 9)},
		{shares(1, 9, 2, 9), shares(1, 9, 3, 9)},
		{shares(1, 9, 3, 9), shares(2, 9, 3, 9)},
		{all, all[1:]},
		{all, all[:63]},
		{all[1:], all[:63]},
	} {
		for j, y := range [][2][]api.Share{{x[0], x[1]}, {x[1], x[0]}} {
			if l, e := Sum(y[0], y[1]); e != api.ErrShare || len(l) != 0 {
				t.Error(i, j, l, e)
			}
		}
	}
}

// Any need or more of the shares are joined to the secret, and fit need coefficients, but not fewer, as no coefficient that is drawn is 0.
func TestEnough(t *testing.T) {
	for many := 1; many <= 7; many++ {
		for need := 1; need <= many; need++ {
			secret := api.Q - 10*many - need
			l := splitOf(t, secret, need, many, api.Key{byte(many), byte(need)})
			for mask := uint(1); mask < 1<<many; mask++ {
				part := subset(l, mask)
				if !fitsOf(t, part, need) {
					t.Error("Fits", many, need, mask)
				}
				if bits.OnesCount(mask) >= need && joinOf(t, part) != secret {
					t.Error("Join", many, need, mask)
				}
				if need > 1 && bits.OnesCount(mask) >= need && fitsOf(t, part, need-1) {
					t.Error("Fits fewer", many, need, mask)
				}
			}
		}
	}
}

func TestEnoughOfMany(t *testing.T) {
	r := rand.New(rand.NewSource(3))
	for _, need := range []int{1, 2, 3, 16, 32, 33, 63, 64} {
		for _, secret := range []int{0, 1, api.Q - 1, r.Intn(api.Q)} {
			l := splitOf(t, secret, need, 64, counting())
			for range 4 {
				part := chosen(r, l, need+r.Intn(65-need))
				if joinOf(t, part) != secret || !fitsOf(t, part, need) {
					t.Error(need, secret, part)
				}
			}
			if joinOf(t, l[:need]) != secret || joinOf(t, l[64-need:]) != secret || joinOf(t, l) != secret {
				t.Error(need, secret)
			}
		}
	}
}

// another returns the value with which a further share is joined with l to the secret, by the polynomial that has the secret at 0.
func another(l []api.Share, at, secret int) int {
	return reached(append(shares(0, secret), l...), at)
}

// Whatever fewer shares are known, each secret is reached with exactly one value at a further place.
func TestFewer(t *testing.T) {
	r := rand.New(rand.NewSource(4))
	for _, n := range []int{0, 1, 2, 3, 7, 31, 62, 63} {
		l := scattered(r, n)
		used := map[int]bool{}
		for _, s := range l {
			used[s.At] = true
		}
		for at := 1; at <= 64; at++ {
			if used[at] || n > 3 && at%5 != 0 && n != 63 {
				continue
			}
			seen := map[int]bool{}
			for _, secret := range []int{0, 1, 2, api.Q / 2, api.Q - 1, 3 + r.Intn(1000)} {
				y := another(l, at, secret)
				if joinOf(t, with(l, at, y)) != secret || seen[y] {
					t.Error(n, at, secret, y)
				}
				seen[y] = true
				for _, z := range []int{(y + 1) % api.Q, (y + api.Q - 1) % api.Q, (y + api.Q/2) % api.Q, r.Intn(api.Q)} {
					if z != y && joinOf(t, with(l, at, z)) == secret {
						t.Error("another value", n, at, secret, y, z)
					}
				}
			}
		}
	}
}

// The shares that Split returns are no exception: with need - 1 of them, every secret remains.
func TestFewerOfSplit(t *testing.T) {
	for need := 1; need <= 6; need++ {
		l := splitOf(t, 99, need, 6, full())
		for mask := range uint(1 << 6) {
			if bits.OnesCount(mask) != need-1 {
				continue
			}
			known := subset(l, mask)
			for i, s := range l {
				if mask>>i&1 == 1 {
					continue
				}
				for _, secret := range []int{0, 98, 99, 100, api.Q - 1} {
					y := another(known, s.At, secret)
					if joinOf(t, with(known, s.At, y)) != secret || (y == s.Y) != (secret == 99) {
						t.Error(need, mask, i, secret)
					}
				}
			}
		}
	}
}

// A share that is changed is noticed if more than need are known, and not otherwise.
func TestChanged(t *testing.T) {
	for _, x := range [][2]int{{1, 1}, {1, 2}, {2, 2}, {2, 3}, {3, 7}, {6, 7}, {7, 7}, {32, 33}, {5, 64}, {63, 64}, {64, 64}} {
		need, many := x[0], x[1]
		l := splitOf(t, 12345, need, many, api.Key{9})
		for i, s := range l {
			if many > 8 && i%9 > 1 && i < many-2 {
				continue
			}
			for _, by := range []int{1, 2, api.Q / 2, api.Q - 1} {
				changed := valued(l, i, (s.Y+by)%api.Q)
				if fitsOf(t, changed, need) != (many == need) {
					t.Error(need, many, i, by)
				}
			}
		}
	}
}

// A sum is joined to the sum of the secrets, and fits as many coefficients.
func TestSumOfSecrets(t *testing.T) {
	r := rand.New(rand.NewSource(5))
	for _, n := range []int{1, 2, 3, 10, 33, 64} {
		for range 10 {
			a, b := scattered(r, n), scattered(r, n)
			for i := range b {
				b[i].At = a[i].At
			}
			l := sumOf(t, a, b)
			if joinOf(t, l) != plusQ(joinOf(t, a), joinOf(t, b)) {
				t.Error(a, b)
			}
			for i := range l {
				if l[i].At != a[i].At || l[i].Y != plusQ(a[i].Y, b[i].Y) {
					t.Error(i, a, b)
				}
			}
		}
	}
	for need := 1; need <= 7; need++ {
		a, b := splitOf(t, api.Q-3, need, 7, api.Key{1}), splitOf(t, 5, need, 7, api.Key{2})
		for mask := uint(1); mask < 1<<7; mask++ {
			l := sumOf(t, subset(a, mask), subset(b, mask))
			if !fitsOf(t, l, need) || bits.OnesCount(mask) >= need && joinOf(t, l) != 2 {
				t.Error(need, mask)
			}
		}
	}
}

// A basis polynomial is 1 at the place of its share and 0 at the others; an enumeration that is left begins anew.
func TestBases(t *testing.T) {
	r := rand.New(rand.NewSource(6))
	for _, n := range []int{1, 2, 5, 64} {
		l := scattered(r, n)
		for end := 1; end <= n; end += 1 + n/9 {
			i := 0
			for own, b := range bases(l) {
				if own != l[i] {
					t.Fatal(n, i, own)
				}
				for j, s := range l {
					if y := b.at(s.At); y == 1 != (i == j) || y > 1 {
						t.Error(n, i, j, y)
					}
				}
				if i++; i == end {
					break
				}
			}
			if i != end {
				t.Error(n, i, end)
			}
		}
	}
}

func TestSelected(t *testing.T) {
	even := func(n int) bool { return n%2 == 0 }
	for i, x := range [][2][]int{{nil, nil}, {{1, 3}, nil}, {{2, 1, 4, 4, 3, 0}, {2, 4, 4, 0}}} {
		if l := selected(x[0], even); !slices.Equal(l, x[1]) {
			t.Error(i, l)
		}
	}
}

// The shares and what lies behind them stay as they are, and equal calls return equal results.
func TestArgumentsStay(t *testing.T) {
	a, b := everywhere(func(at int) int { return at }), everywhere(func(at int) int { return at * at })
	c, d := slices.Clone(a), slices.Clone(b)
	secret, sum := joinOf(t, a[:5]), sumOf(t, a[:5], b[:5])
	kept := slices.Clone(sum)
	split := splitOf(t, 5, 3, 9, counting())
	for range 3 {
		if joinOf(t, a[:5]) != secret || !slices.Equal(sumOf(t, a[:5], b[:5]), sum) || !slices.Equal(splitOf(t, 5, 3, 9, counting()), split) {
			t.Error("equal calls")
		}
		if fitsOf(t, b[:9], 2) || !fitsOf(t, b[:9], 3) {
			t.Error("Fits")
		}
	}
	sumOf(t, a[:5], a[:5])
	sumOf(t, sum, b[:5])
	if !slices.Equal(a, c) || !slices.Equal(b, d) || !slices.Equal(sum, kept) {
		t.Error("an argument was changed")
	}
}

func FuzzShamir(f *testing.F) {
	f.Add(7, 1, 3, []byte{}, []byte{})
	f.Add(api.Q-1, 3, 5, []byte{1}, []byte{1, 0, 0, 0, 0, 0, 0, 0, 9, 2, 0, 0, 0, 0, 0, 0, 0, 11})
	f.Add(-1, 64, 64, []byte{2}, []byte{64, 30, 0, 0, 0, 0, 0, 0, 0, 64, 0, 0, 0, 0, 0, 0, 0, 1})
	f.Add(math.MaxInt, 0, 65, []byte{3}, []byte{255, 255, 0, 0, 0, 0, 0, 0, 0})
	f.Fuzz(func(t *testing.T, secret, need, many int, bytes, b []byte) {
		var seed api.Key
		copy(seed[:], bytes)
		l, e := Split(secret, need, many, seed)
		switch {
		case secret < 0 || secret >= api.Q:
			if e != api.ErrArg || len(l) != 0 {
				t.Error("Split", l, e)
			}
		case need < 1 || need > many || many > 64:
			if e != api.ErrShare || len(l) != 0 {
				t.Error("Split", l, e)
			}
		case e != api.OK || !slices.Equal(l, parted(secret, need, many, seed)):
			t.Error("Split", l, e)
		}
		l = nil
		valid, before := len(b) >= 9 && len(b) < 65*9, 0
		for ; len(b) >= 9; b = b[9:] {
			s := api.Share{At: int(int8(b[0])), Y: int(binary.BigEndian.Uint64(b[1:]))}
			valid = valid && s.At > before && s.At <= 64 && s.Y >= 0 && s.Y < api.Q
			before = s.At
			l = append(l, s)
		}
		if !valid {
			refuse(t, "bytes", l)
			return
		}
		if Check(l) != api.OK || joinOf(t, l) != reached(l, 0) || joinOf(t, sumOf(t, l, l)) != plusQ(reached(l, 0), reached(l, 0)) {
			t.Error(l)
		}
		ok, e := Fits(l, need)
		switch {
		case need < 1 || need > 64:
			if e != api.ErrArg || ok {
				t.Error("Fits", l, need, ok, e)
			}
		case e != api.OK || ok != (need >= needed(l)):
			t.Error("Fits", l, need, ok, e)
		}
	})
}
