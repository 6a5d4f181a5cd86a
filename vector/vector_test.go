package vector

import (
	"math"
	"math/rand"
	"slices"
	"testing"

	"chartroom/api"
)

// dots returns dots from devices and numbers, in turn.
func dots(l ...int) (v []api.Dot) {
	for i := 0; i < len(l); i += 2 {
		v = append(v, api.Dot{Device: l[i], Seq: l[i+1]})
	}
	return v
}

// A table has the number of each device, 0 for those without a dot.
type table [512]int

func tableOf(v []api.Dot) (n table) {
	for _, d := range v {
		n[d.Device] = d.Seq
	}
	return n
}

func (n table) vector() (v []api.Dot) {
	for device, seq := range n {
		if seq > 0 {
			v = append(v, api.Dot{Device: device, Seq: seq})
		}
	}
	return v
}

// merged returns the vector of the greater ones, and that of the lesser ones, of the numbers of all devices.
func merged(a, b []api.Dot) (join, meet []api.Dot) {
	x, y := tableOf(a), tableOf(b)
	for device := range x {
		if x[device] < y[device] {
			x[device], y[device] = y[device], x[device]
		}
	}
	return x.vector(), y.vector()
}

// below tells whether the number of every device in a is at most that in b.
func below(a, b []api.Dot) bool {
	x, y := tableOf(a), tableOf(b)
	for device := range x {
		if x[device] > y[device] {
			return false
		}
	}
	return true
}

// compared returns what Compare should return.
func compared(a, b []api.Dot) int {
	switch {
	case below(a, b) && below(b, a):
		return 0
	case below(a, b):
		return -1
	case below(b, a):
		return 1
	}
	return 2
}

// everyone returns the vector of all devices, by a rule.
func everyone(rule func(device int) int) (v []api.Dot) {
	for device := range 512 {
		v = append(v, api.Dot{Device: device, Seq: rule(device)})
	}
	return v
}

func always(n int) func(int) int { return func(int) int { return n } }

// few returns all vectors of three devices, the first, one in the middle and the last, with numbers up to 2.
func few() (all [][]api.Dot) {
	for i := range 27 {
		all = append(all, table{0: i % 3, 100: i / 3 % 3, 511: i / 9}.vector())
	}
	return all
}

// random returns a vector of some devices with numbers up to the greatest, which a source of numbers chooses. Some of its numbers are those of another vector.
func random(r *rand.Rand, other []api.Dot, greatest int) []api.Dot {
	same := tableOf(other)
	some := 1 + r.Intn(512)
	var n table
	for device := range n {
		switch {
		case r.Intn(3) == 0:
			n[device] = same[device]
		case r.Intn(512) < some:
			n[device] = 1 + r.Intn(greatest)
		}
	}
	return n.vector()
}

// pairsOf returns pairs of vectors by a rule: few and many dots, with numbers that are often equal, and seldom.
func pairsOf(n int) (l [][2][]api.Dot) {
	r := rand.New(rand.NewSource(int64(n)))
	for i := range n {
		greatest := []int{1, 2, 5, 1 << 20}[i%4]
		a := random(r, nil, greatest)
		l = append(l, [2][]api.Dot{a, random(r, a, greatest)})
	}
	return l
}

func joinOf(t *testing.T, a, b []api.Dot) []api.Dot {
	t.Helper()
	v, e := Join(a, b)
	if e != api.OK || Check(v) != api.OK {
		t.Fatal("Join", a, b, v, e)
	}
	return v
}

func meetOf(t *testing.T, a, b []api.Dot) []api.Dot {
	t.Helper()
	v, e := Meet(a, b)
	if e != api.OK || Check(v) != api.OK {
		t.Fatal("Meet", a, b, v, e)
	}
	return v
}

func compareOf(t *testing.T, a, b []api.Dot) int {
	t.Helper()
	n, e := Compare(a, b)
	if e != api.OK {
		t.Fatal("Compare", a, b, e)
	}
	return n
}

func withOf(t *testing.T, v []api.Dot, d api.Dot) []api.Dot {
	t.Helper()
	x, e := With(v, d)
	if e != api.OK || Check(x) != api.OK {
		t.Fatal("With", v, d, x, e)
	}
	return x
}

// isAtMost tells whether a is at most b, by Compare.
func isAtMost(t *testing.T, a, b []api.Dot) bool {
	t.Helper()
	n := compareOf(t, a, b)
	return n == -1 || n == 0
}

// refuse checks that no function accepts a list as a vector, whatever the other argument is.
func refuse(t *testing.T, name string, v []api.Dot) {
	t.Helper()
	if e := Check(v); e != api.ErrVector {
		t.Error("Check", name, e)
	}
	for i, other := range [][]api.Dot{nil, dots(0, 1), dots(3, 5, 511, 1<<20), everyone(always(1)), v, dots(-1, 1)} {
		for _, x := range [][2][]api.Dot{{v, other}, {other, v}} {
			if j, e := Join(x[0], x[1]); e != api.ErrVector || len(j) != 0 {
				t.Error("Join", name, i, j, e)
			}
			if m, e := Meet(x[0], x[1]); e != api.ErrVector || len(m) != 0 {
				t.Error("Meet", name, i, m, e)
			}
			if n, e := Compare(x[0], x[1]); e != api.ErrVector || n != 0 {
				t.Error("Compare", name, i, n, e)
			}
		}
	}
	for _, d := range dots(0, 1, 3, 5, 511, 1<<20, 3, 0, -1, 1, 512, 1) {
		refuseDot(t, v, d)
	}
}

// refuseDot checks that With does not accept its arguments.
func refuseDot(t *testing.T, v []api.Dot, d api.Dot) {
	t.Helper()
	if x, e := With(v, d); e != api.ErrVector || len(x) != 0 {
		t.Error("With", v, d, x, e)
	}
}

func TestCheckAccepts(t *testing.T) {
	for i, v := range [][]api.Dot{
		nil,
		{},
		dots(0, 1),
		dots(0, 1<<20),
		dots(511, 1),
		dots(511, 1<<20),
		dots(0, 1, 511, 1),
		dots(2, 5, 7, 1),
		dots(2, 1, 3, 1, 4, 1),
		dots(0, 3, 1, 2, 2, 1),
		everyone(always(1)),
		everyone(always(1 << 20)),
		everyone(always(1))[1:],
		everyone(func(device int) int { return 1<<20 - device }),
	} {
		if e := Check(v); e != api.OK {
			t.Error(i, e)
		}
	}
}

func TestVectorsRefused(t *testing.T) {
	for name, v := range map[string][]api.Dot{
		"before the first device":  dots(-1, 1),
		"after the last device":    dots(512, 1),
		"least device":             dots(math.MinInt, 1),
		"greatest device":          dots(math.MaxInt, 1),
		"device 2^32":              dots(1<<32, 1),
		"no number":                dots(3, 0),
		"negative number":          dots(3, -1),
		"least number":             dots(3, math.MinInt),
		"number above the limit":   dots(3, 1<<20+1),
		"greatest number":          dots(3, math.MaxInt),
		"number 2^32 + 1":          dots(3, 1<<32+1),
		"both wrong":               dots(512, 0),
		"zero dot":                 dots(0, 0),
		"twice":                    dots(3, 1, 3, 2),
		"twice the same":           dots(3, 1, 3, 1),
		"device 0 twice":           dots(0, 1, 0, 1),
		"device 511 twice":         dots(511, 1, 511, 1),
		"twice, late":              dots(1, 1, 2, 1, 2, 2),
		"back":                     dots(4, 1, 3, 2),
		"back, late":               dots(1, 1, 4, 1, 3, 2),
		"back to a device before":  dots(1, 1, 2, 1, 1, 1),
		"from -1 on":               dots(-1, 1, 0, 1, 1, 1),
		"up to 512":                dots(510, 1, 511, 1, 512, 1),
		"no number, late":          dots(1, 1, 2, 0),
		"no number, first":         dots(1, 0, 2, 1),
		"above the limit, late":    dots(1, 1, 2, 1<<20+1),
		"above the limit, first":   dots(1, 1<<20+1, 2, 1),
		"513 devices":              append(everyone(always(1)), api.Dot{Device: 512, Seq: 1}),
		"513 dots":                 append(everyone(always(1)), api.Dot{Device: 511, Seq: 1}),
		"all devices twice":        append(everyone(always(1)), everyone(always(1))...),
		"all devices with nothing": everyone(always(0)),
	} {
		refuse(t, name, v)
	}
}

// Each one of many dots is examined.
func TestCheckEach(t *testing.T) {
	for i := range 512 {
		for _, device := range []int{i - 1, i + 1, -1, 512, math.MinInt, math.MaxInt} {
			v := everyone(always(1))
			v[i].Device = device
			if device >= 0 && device < 512 {
				v = v[max(0, i-1):min(512, i+2)] // the neighbours alone make it wrong
			}
			if e := Check(v); e != api.ErrVector {
				t.Error("device", i, device, e)
			}
		}
		for _, seq := range []int{0, -1, 1<<20 + 1, math.MinInt, math.MaxInt} {
			v := everyone(always(1))
			v[i].Seq = seq
			if e := Check(v); e != api.ErrVector {
				t.Error("number", i, seq, e)
			}
		}
	}
}

// At and Covers accept all lists and numbers; the first dot of a device counts.
func TestAtKnown(t *testing.T) {
	odd := dots(7, 2, 3, 9, 7, 5, -4, 6, 512, 8, 2, 0, 2, 3, 1, -5, math.MaxInt, math.MaxInt, math.MinInt, 4, 5, math.MinInt)
	for i, x := range []struct {
		v           []api.Dot
		device, seq int
	}{
		{nil, 3, 0}, {nil, 0, 0}, {nil, -1, 0}, {[]api.Dot{}, 511, 0},
		{dots(2, 5, 7, 1), 2, 5}, {dots(2, 5, 7, 1), 7, 1}, {dots(2, 5, 7, 1), 0, 0}, {dots(2, 5, 7, 1), 5, 0}, {dots(2, 5, 7, 1), 8, 0}, {dots(2, 5, 7, 1), 512, 0},
		{dots(0, 1<<20), 0, 1 << 20}, {dots(511, 1<<20), 511, 1 << 20}, {dots(511, 1<<20), 0, 0},
		{dots(2, 5, 2, 9), 2, 5}, {dots(2, 9, 2, 5), 2, 9}, {dots(2, 0, 2, 9), 2, 0},
		{odd, 7, 2}, {odd, 3, 9}, {odd, -4, 6}, {odd, 512, 8}, {odd, 2, 0}, {odd, 1, -5}, {odd, math.MaxInt, math.MaxInt}, {odd, math.MinInt, 4}, {odd, 5, math.MinInt}, {odd, 0, 0}, {odd, 4, 0}, {odd, -1, 0},
	} {
		if n := At(x.v, x.device); n != x.seq {
			t.Error(i, n)
		}
	}
}

func TestCoversKnown(t *testing.T) {
	v := dots(2, 5, 7, 1)
	odd := dots(7, 2, 7, 5, 2, 0, 2, 3, 1, -5, 512, 8, -4, 6, 9, math.MaxInt)
	for i, x := range []struct {
		v           []api.Dot
		device, seq int
		want        bool
	}{
		{nil, 0, 1, false}, {nil, 3, 1, false}, {nil, 3, 0, false}, {nil, 3, -1, false}, {[]api.Dot{}, 3, math.MinInt, false},
		{v, 2, 1, true}, {v, 2, 3, true}, {v, 2, 5, true}, {v, 2, 6, false}, {v, 2, 0, false}, {v, 2, -1, false}, {v, 2, math.MinInt, false}, {v, 2, math.MaxInt, false},
		{v, 7, 1, true}, {v, 7, 2, false}, {v, 7, 0, false}, {v, 3, 1, false}, {v, 3, 0, false}, {v, -2, 1, false}, {v, 512, 1, false},
		{odd, 7, 1, true}, {odd, 7, 2, true}, {odd, 7, 3, false}, {odd, 7, 5, false},
		{odd, 2, 1, false}, {odd, 2, 0, false}, {odd, 2, 3, false},
		{odd, 1, 1, false}, {odd, 1, 0, false}, {odd, 1, -5, false}, {odd, 1, -6, false},
		{odd, 512, 8, true}, {odd, 512, 9, false}, {odd, -4, 6, true}, {odd, -4, 7, false},
		{odd, 9, math.MaxInt, true}, {odd, 9, 1<<20 + 1, true}, {odd, 9, 0, false},
	} {
		if ok := Covers(x.v, api.Dot{Device: x.device, Seq: x.seq}); ok != x.want {
			t.Error(i, x, ok)
		}
	}
}

// At finds the number of every device, and Covers the dots up to it, at both limits.
func TestAtOfAll(t *testing.T) {
	v := everyone(func(device int) int { return 1 + device*device })
	for device := -3; device < 515; device++ {
		seq := 0
		if device >= 0 && device < 512 {
			seq = 1 + device*device
		}
		if n := At(v, device); n != seq {
			t.Error("At", device, n)
		}
		for _, s := range []int{math.MinInt, -seq, -1, 0, 1, seq - 1, seq, seq + 1, 1 << 20, math.MaxInt} {
			if ok := Covers(v, api.Dot{Device: device, Seq: s}); ok != (s >= 1 && s <= seq) {
				t.Error("Covers", device, s, ok)
			}
		}
	}
}

func TestMergeKnown(t *testing.T) {
	for i, x := range []struct {
		a, b, join, meet []api.Dot
		n                int
	}{
		{nil, nil, nil, nil, 0},
		{nil, []api.Dot{}, nil, nil, 0},
		{nil, dots(0, 1), dots(0, 1), nil, -1},
		{dots(511, 7), nil, dots(511, 7), nil, 1},
		{dots(2, 5), dots(2, 3, 7, 1), dots(2, 5, 7, 1), dots(2, 3), 2},
		{dots(2, 3), dots(2, 5, 7, 1), dots(2, 5, 7, 1), dots(2, 3), -1},
		{dots(2, 3), dots(2, 3, 7, 1), dots(2, 3, 7, 1), dots(2, 3), -1},
		{dots(7, 1), dots(2, 3, 7, 1), dots(2, 3, 7, 1), dots(7, 1), -1},
		{dots(2, 3, 7, 1), dots(2, 3, 7, 1), dots(2, 3, 7, 1), dots(2, 3, 7, 1), 0},
		{dots(2, 3, 7, 2), dots(2, 3, 7, 1), dots(2, 3, 7, 2), dots(2, 3, 7, 1), 1},
		{dots(2, 3, 7, 1), dots(2, 4, 7, 1), dots(2, 4, 7, 1), dots(2, 3, 7, 1), -1},
		{dots(2, 1, 7, 2), dots(2, 2, 7, 1), dots(2, 2, 7, 2), dots(2, 1, 7, 1), 2},
		{dots(2, 1, 5, 3, 7, 2), dots(2, 2, 5, 3, 7, 1), dots(2, 2, 5, 3, 7, 2), dots(2, 1, 5, 3, 7, 1), 2},
		{dots(0, 1), dots(511, 1), dots(0, 1, 511, 1), nil, 2},
		{dots(0, 1<<20), dots(511, 1<<20), dots(0, 1<<20, 511, 1<<20), nil, 2},
		{dots(0, 1, 2, 1, 4, 1), dots(1, 1, 3, 1, 5, 1), dots(0, 1, 1, 1, 2, 1, 3, 1, 4, 1, 5, 1), nil, 2},
		{dots(0, 9, 1, 8), dots(1, 9), dots(0, 9, 1, 9), dots(1, 8), 2},
		{dots(0, 9, 1, 9), dots(1, 9), dots(0, 9, 1, 9), dots(1, 9), 1},
		{dots(1, 1, 3, 3, 5, 5), dots(2, 2, 3, 1, 5, 9, 6, 6), dots(1, 1, 2, 2, 3, 3, 5, 9, 6, 6), dots(3, 1, 5, 5), 2},
		{everyone(always(1)), everyone(always(1 << 20)), everyone(always(1 << 20)), everyone(always(1)), -1},
		{everyone(always(4)), everyone(always(4)), everyone(always(4)), everyone(always(4)), 0},
		{everyone(always(4)), everyone(always(4))[:511], everyone(always(4)), everyone(always(4))[:511], 1},
		{everyone(always(4))[:256], everyone(always(4))[256:], everyone(always(4)), nil, 2},
	} {
		for _, back := range []bool{false, true} {
			a, b, want := x.a, x.b, x.n
			if back {
				a, b = b, a
			}
			if back && want != 2 {
				want = -want
			}
			if v := joinOf(t, a, b); !slices.Equal(v, x.join) {
				t.Error("Join", i, back, v)
			}
			if v := meetOf(t, a, b); !slices.Equal(v, x.meet) {
				t.Error("Meet", i, back, v)
			}
			if n := compareOf(t, a, b); n != want {
				t.Error("Compare", i, back, n)
			}
		}
	}
}

// agree checks that two vectors are merged and compared like tables of all numbers.
func agree(t *testing.T, a, b []api.Dot) {
	t.Helper()
	join, meet := merged(a, b)
	if v := joinOf(t, a, b); !slices.Equal(v, join) {
		t.Error("Join", a, b, v)
	}
	if v := meetOf(t, a, b); !slices.Equal(v, meet) {
		t.Error("Meet", a, b, v)
	}
	if n := compareOf(t, a, b); n != compared(a, b) {
		t.Error("Compare", a, b, n)
	}
}

func TestMergeOfMany(t *testing.T) {
	for _, a := range few() {
		for _, b := range few() {
			agree(t, a, b)
		}
	}
	for _, x := range pairsOf(400) {
		join, meet := merged(x[0], x[1])
		for _, a := range [][]api.Dot{x[0], x[1], join, meet, nil} {
			for _, b := range [][]api.Dot{x[0], x[1], join, meet, nil} {
				agree(t, a, b)
			}
		}
	}
}

// One number more or less is noticed, wherever it is.
func TestCompareEach(t *testing.T) {
	middle := everyone(always(5))
	for i := range middle {
		more, less := slices.Clone(middle), slices.Clone(middle)
		more[i].Seq++
		less[i].Seq--
		without := slices.Delete(slices.Clone(middle), i, i+1)
		for _, x := range []struct {
			a, b []api.Dot
			n    int
		}{{middle, more, -1}, {more, middle, 1}, {middle, less, 1}, {less, middle, -1}, {without, middle, -1}, {middle, without, 1}, {without, less, -1}, {less, more, -1}} {
			if n := compareOf(t, x.a, x.b); n != x.n {
				t.Error(i, n)
			}
		}
		other := slices.Clone(middle)
		other[511-i].Seq++ // i is never 511 - i
		if compareOf(t, more, other) != 2 || compareOf(t, without, other[511-i:512-i]) != 2 {
			t.Error(i, "comparable")
		}
	}
}

func TestWithKnown(t *testing.T) {
	for i, x := range []struct {
		v    []api.Dot
		d    api.Dot
		want []api.Dot
	}{
		{nil, api.Dot{Device: 3, Seq: 2}, dots(3, 2)},
		{[]api.Dot{}, api.Dot{Device: 0, Seq: 1}, dots(0, 1)},
		{nil, api.Dot{Device: 511, Seq: 1 << 20}, dots(511, 1<<20)},
		{dots(2, 5), api.Dot{Device: 2, Seq: 4}, dots(2, 5)},
		{dots(2, 5), api.Dot{Device: 2, Seq: 1}, dots(2, 5)},
		{dots(2, 5), api.Dot{Device: 2, Seq: 5}, dots(2, 5)},
		{dots(2, 5), api.Dot{Device: 2, Seq: 6}, dots(2, 6)},
		{dots(2, 5), api.Dot{Device: 2, Seq: 1 << 20}, dots(2, 1<<20)},
		{dots(2, 5, 4, 4), api.Dot{Device: 3, Seq: 1}, dots(2, 5, 3, 1, 4, 4)},
		{dots(2, 5, 4, 4), api.Dot{Device: 0, Seq: 7}, dots(0, 7, 2, 5, 4, 4)},
		{dots(2, 5, 4, 4), api.Dot{Device: 5, Seq: 9}, dots(2, 5, 4, 4, 5, 9)},
		{dots(2, 5, 4, 4), api.Dot{Device: 4, Seq: 3}, dots(2, 5, 4, 4)},
		{everyone(always(7)), api.Dot{Device: 100, Seq: 7}, everyone(always(7))},
		{everyone(always(7))[1:], api.Dot{Device: 0, Seq: 7}, everyone(always(7))},
		{everyone(always(7))[:511], api.Dot{Device: 511, Seq: 7}, everyone(always(7))},
	} {
		if v := withOf(t, x.v, x.d); !slices.Equal(v, x.want) {
			t.Error(i, v)
		}
	}
}

// With is the join with the vector of the dot alone; it covers what the vector covers, and the operations up to that of the dot.
func TestWithOfMany(t *testing.T) {
	vectors := few()
	for _, x := range pairsOf(20) {
		vectors = append(vectors, x[0], x[1])
	}
	for _, v := range vectors {
		for _, d := range dots(0, 1, 0, 2, 0, 3, 1, 1, 99, 7, 100, 1, 100, 2, 101, 1<<20, 511, 1, 511, 2, 511, 1<<20) {
			x := withOf(t, v, d)
			n := tableOf(v)
			n[d.Device] = max(n[d.Device], d.Seq)
			if !slices.Equal(x, n.vector()) || !slices.Equal(x, joinOf(t, v, []api.Dot{d})) {
				t.Error(v, d, x)
			}
			if !Covers(x, d) || !isAtMost(t, v, x) || slices.Equal(x, v) != Covers(v, d) {
				t.Error(v, d, x, "does not cover")
			}
		}
	}
}

func TestWithRefuses(t *testing.T) {
	for _, v := range [][]api.Dot{nil, dots(2, 5), dots(0, 1, 511, 1), everyone(always(3)), everyone(always(1 << 20))} {
		for _, d := range dots(2, 0, 2, -1, 2, math.MinInt, 2, 1<<20+1, 2, math.MaxInt, 3, 0, -1, 1, -1, 0, 512, 1, 512, 1<<20+1, math.MinInt, 5, math.MaxInt, 5, 0, 0, 1<<32+2, 5, 2, 1<<32+5) {
			refuseDot(t, v, d)
		}
	}
}

// around returns dots near those of vectors, and others that no vector covers.
func around(vectors ...[]api.Dot) (l []api.Dot) {
	for _, v := range vectors {
		for _, d := range v {
			for _, seq := range []int{0, 1, d.Seq - 1, d.Seq, d.Seq + 1} {
				l = append(l, api.Dot{Device: d.Device, Seq: seq})
			}
		}
	}
	return append(l, dots(-1, 1, 0, 1, 511, 1, 512, 1, 3, 0, 3, -1, 3, math.MaxInt)...)
}

// Join covers what one of both covers, and Meet what both cover.
func TestCovered(t *testing.T) {
	check := func(a, b []api.Dot) {
		t.Helper()
		join, meet := joinOf(t, a, b), meetOf(t, a, b)
		for _, d := range around(a, b, join, meet) {
			if Covers(join, d) != (Covers(a, d) || Covers(b, d)) {
				t.Error("Join", a, b, d)
			}
			if Covers(meet, d) != (Covers(a, d) && Covers(b, d)) {
				t.Error("Meet", a, b, d)
			}
		}
	}
	for _, a := range few() {
		for _, b := range few() {
			check(a, b)
		}
	}
	for _, x := range pairsOf(12) {
		check(x[0], x[1])
	}
}

// laws checks what holds for any two vectors.
func laws(t *testing.T, a, b []api.Dot) {
	t.Helper()
	join, meet := joinOf(t, a, b), meetOf(t, a, b)
	if !slices.Equal(join, joinOf(t, b, a)) || !slices.Equal(meet, meetOf(t, b, a)) {
		t.Error("not commutative", a, b)
	}
	if !slices.Equal(joinOf(t, a, a), a) || !slices.Equal(meetOf(t, a, a), a) {
		t.Error("not idempotent", a)
	}
	if !slices.Equal(joinOf(t, a, meet), a) || !slices.Equal(meetOf(t, a, join), a) {
		t.Error("not absorbed", a, b)
	}
	if isAtMost(t, a, b) != slices.Equal(join, b) || isAtMost(t, a, b) != slices.Equal(meet, a) {
		t.Error("at most", a, b)
	}
	if !isAtMost(t, a, join) || !isAtMost(t, b, join) || !isAtMost(t, meet, a) || !isAtMost(t, meet, b) {
		t.Error("not between", a, b)
	}
	if (compareOf(t, a, b) == 0) != slices.Equal(a, b) {
		t.Error("equal", a, b)
	}
}

// lawsOfThree checks what holds for any three vectors: also that the join is the least vector that both are at most, and the meet the greatest that is at most both.
func lawsOfThree(t *testing.T, a, b, c []api.Dot) {
	t.Helper()
	join, meet := joinOf(t, a, b), meetOf(t, a, b)
	if !slices.Equal(joinOf(t, join, c), joinOf(t, a, joinOf(t, b, c))) || !slices.Equal(meetOf(t, meet, c), meetOf(t, a, meetOf(t, b, c))) {
		t.Error("not associative", a, b, c)
	}
	if (isAtMost(t, a, c) && isAtMost(t, b, c)) != isAtMost(t, join, c) {
		t.Error("not the least", a, b, c)
	}
	if (isAtMost(t, c, a) && isAtMost(t, c, b)) != isAtMost(t, c, meet) {
		t.Error("not the greatest", a, b, c)
	}
}

func TestLaws(t *testing.T) {
	for _, a := range few() {
		for _, b := range few() {
			laws(t, a, b)
			for _, c := range few() {
				lawsOfThree(t, a, b, c)
			}
		}
	}
	l := pairsOf(100)
	for i, x := range l {
		laws(t, x[0], x[1])
		for _, c := range [][]api.Dot{l[(i+1)%len(l)][0], joinOf(t, x[0], x[1]), meetOf(t, x[0], x[1])} {
			lawsOfThree(t, x[0], x[1], c)
		}
	}
}

// The pairs are yielded in order, again with each call, and no more of them than are taken.
func TestPairs(t *testing.T) {
	all := pairs(dots(1, 4, 3, 3), dots(0, 2, 3, 5, 9, 1))
	devices, numbers := []int{0, 1, 3, 9}, []pair{{0, 2}, {4, 0}, {3, 5}, {0, 1}}
	for n := range 5 {
		taken := 0
		for device, p := range all {
			if taken == n {
				break
			}
			if device != devices[taken] || p != numbers[taken] {
				t.Error(n, taken, device, p)
			}
			taken++
		}
		if taken != n {
			t.Error(n, taken)
		}
	}
}

// The vectors, what lies behind them, and earlier results stay as they are, and equal calls return equal results.
func TestArgumentsStay(t *testing.T) {
	a, b := everyone(always(2)), everyone(func(device int) int { return 1 + device%3 })
	c, d := slices.Clone(a), slices.Clone(b)
	join, meet, with := joinOf(t, a[:5], b[3:9]), meetOf(t, a[:5], b[3:9]), withOf(t, a[:5], api.Dot{Device: 5, Seq: 9})
	results := [][]api.Dot{slices.Clone(join), slices.Clone(meet), slices.Clone(with)}
	for range 3 {
		if !slices.Equal(joinOf(t, a[:5], b[3:9]), join) || !slices.Equal(meetOf(t, a[:5], b[3:9]), meet) || !slices.Equal(withOf(t, a[:5], api.Dot{Device: 5, Seq: 9}), with) {
			t.Error("equal calls")
		}
		if compareOf(t, a[:5], b[3:9]) != 2 || compareOf(t, a[:5], a[:6]) != -1 || At(a[:5], 5) != 0 || Covers(a[:5], api.Dot{Device: 5, Seq: 1}) {
			t.Error("equal calls, or more than the vector was read")
		}
	}
	withOf(t, join, api.Dot{Device: 100, Seq: 1})
	joinOf(t, with, b)
	meetOf(t, join, with)
	refuse(t, "behind", append(a[:5:5], api.Dot{Device: 2, Seq: 1}))
	if !slices.Equal(a, c) || !slices.Equal(b, d) {
		t.Error("an argument was changed")
	}
	if !slices.Equal(join, results[0]) || !slices.Equal(meet, results[1]) || !slices.Equal(with, results[2]) {
		t.Error("a result was changed")
	}
}

// read makes dots of bytes: three for each one. Most of the numbers are within the limits, or just outside.
func read(b []byte) (v []api.Dot) {
	for ; len(b) >= 3; b = b[3:] {
		device, seq := int(int8(b[0]))*4+int(b[1]%4), int(int8(b[1]))/4
		if b[2] >= 128 {
			seq = 1<<20 - 2 + int(b[2]%4)
		}
		v = append(v, api.Dot{Device: device, Seq: seq})
	}
	return v
}

// isValid tells whether a list is a valid vector: whether it is the vector of a table.
func isValid(v []api.Dot) bool {
	var n table
	for _, d := range v {
		if d.Device < 0 || d.Device > 511 || d.Seq > 1<<20 {
			return false
		}
		n[d.Device] = d.Seq
	}
	return slices.Equal(v, n.vector())
}

func FuzzVector(f *testing.F) {
	f.Add([]byte{}, []byte{}, 0, 0)
	f.Add([]byte{0, 8, 0, 1, 9, 0}, []byte{0, 9, 0, 2, 9, 200}, 3, 2)
	f.Add([]byte{1, 8, 0, 0, 8, 0}, []byte{127, 8, 0}, 511, 1<<20)
	f.Add([]byte{255, 8, 0}, []byte{3, 1, 0}, 512, -1)
	f.Fuzz(func(t *testing.T, first, second []byte, device, seq int) {
		a, b, d := read(first), read(second), api.Dot{Device: device, Seq: seq}
		i := slices.IndexFunc(a, func(x api.Dot) bool { return x.Device == device })
		if n := At(a, device); i < 0 && n != 0 || i >= 0 && n != a[i].Seq {
			t.Error("At", a, device, n)
		}
		if Covers(a, d) != (i >= 0 && seq >= 1 && seq <= a[i].Seq) {
			t.Error("Covers", a, d)
		}
		switch {
		case !isValid(a):
			refuse(t, "first", a)
			return
		case !isValid([]api.Dot{d}):
			refuseDot(t, a, d)
		case !slices.Equal(withOf(t, a, d), joinOf(t, []api.Dot{d}, a)):
			t.Error("With", a, d)
		}
		if !isValid(b) {
			refuse(t, "second", b)
			return
		}
		agree(t, a, b)
		laws(t, a, b)
		for _, x := range around(a, b) {
			if Covers(joinOf(t, a, b), x) != (Covers(a, x) || Covers(b, x)) || Covers(meetOf(t, a, b), x) != (Covers(a, x) && Covers(b, x)) {
				t.Error("covered", a, b, x)
			}
		}
	})
}
