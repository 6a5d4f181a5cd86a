package sequence

import (
	"fmt"
	"math"
	"math/rand"
	"runtime/debug"
	"slices"
	"sort"
	"strings"
	"testing"

	"chartroom/api"
)

// start is the zero ID: the beginning of a list.
var start api.ID

func id(device, seq, at int) api.ID { return api.ID{Device: device, Seq: seq, At: at} }

func cell(x api.ID, time int, after api.ID, value string) api.Cell {
	return api.Cell{ID: x, After: after, Time: time, Value: value}
}

// typed returns the cells of an operation, one after the other, with the characters of a string as their values.
func typed(device, seq, time int, after api.ID, s string) (l []api.Cell) {
	for at, r := range s {
		l = append(l, cell(id(device, seq, at), time, after, string(r)))
		after = id(device, seq, at)
	}
	return l
}

// show returns the values of all cells.
func show(l []api.Cell) string {
	var b strings.Builder
	for _, c := range l {
		b.WriteString(c.Value)
	}
	return b.String()
}

// formed tells whether cells form a list, by the terms of the chapter, one after the other.
func formed(cells []api.Cell) bool {
	known, times := map[api.ID]api.Cell{}, map[string]int{}
	for _, c := range cells {
		if _, twice := known[c.ID]; twice || !within(c) {
			return false
		}
		known[c.ID] = c
		operation := fmt.Sprint(c.ID.Device, "/", c.ID.Seq)
		if time, ok := times[operation]; ok && time != c.Time {
			return false
		}
		times[operation] = c.Time
	}
	for _, c := range cells {
		for steps := 0; c.After != start; steps++ {
			parent, ok := known[c.After]
			if !ok || steps > len(cells) {
				return false
			}
			c = parent
		}
	}
	return true
}

// within tells whether the numbers of a cell are within their limits.
func within(c api.Cell) bool {
	named := func(x api.ID) bool {
		return 0 <= x.Device && x.Device <= 511 && 1 <= x.Seq && x.Seq <= 1<<20 && 0 <= x.At && x.At <= 63
	}
	return named(c.ID) && (c.After == start || named(c.After)) && 1 <= c.Time && c.Time <= 1<<40 && len(c.Value) <= 4096
}

// sorted returns the list of cells that form one. Its order is that of texts: the text of a cell is that of its parent, followed by the numbers of its stamp, each one taken from a greater number, so that the greatest stamp comes first.
func sorted(cells []api.Cell) []api.Cell {
	known := map[api.ID]api.Cell{}
	for _, c := range cells {
		known[c.ID] = c
	}
	place := func(c api.Cell) (s string) {
		for {
			s = fmt.Sprintf("%014d,%03d,%08d,%02d;", 1<<41-c.Time, 600-c.ID.Device, 1<<21-c.ID.Seq, 80-c.ID.At) + s
			if c.After == start {
				return s
			}
			c = known[c.After]
		}
	}
	places := map[api.ID]string{}
	for _, c := range cells {
		places[c.ID] = place(c)
	}
	l := slices.Clone(cells)
	sort.Slice(l, func(i, j int) bool { return places[l[i].ID] < places[l[j].ID] })
	return l
}

// above returns the parents of the cells of a list.
func above(l []api.Cell) map[api.ID]api.ID {
	parents := map[api.ID]api.ID{}
	for _, c := range l {
		parents[c.ID] = c.After
	}
	return parents
}

// lies tells whether the cell x is below the cell y.
func lies(parents map[api.ID]api.ID, x, y api.ID) bool {
	for x != start && x != y {
		x = parents[x]
	}
	return x == y
}

// permutations calls a function with all orders of some cells.
func permutations(cells []api.Cell, visit func([]api.Cell)) {
	l := slices.Clone(cells)
	var choose func(n int)
	choose = func(n int) {
		if n == len(l) {
			visit(slices.Clone(l))
			return
		}
		for i := n; i < len(l); i++ {
			l[n], l[i] = l[i], l[n]
			choose(n + 1)
			l[n], l[i] = l[i], l[n]
		}
	}
	choose(0)
}

// names are four IDs each: of different devices, of one device, of one operation, and some of each.
var names = [][]api.ID{
	{id(3, 1, 0), id(1, 1, 0), id(0, 1, 0), id(2, 1, 0)},
	{id(7, 2, 0), id(7, 4, 0), id(7, 1, 0), id(7, 3, 0)},
	{id(7, 2, 0), id(7, 2, 3), id(7, 2, 1), id(7, 2, 2)},
	{id(0, 1, 1), id(0, 1, 0), id(0, 2, 0), id(1, 1, 0)},
}

// few calls a function with many sets of up to four cells: each one is without a parent, or its parent is any one of them, also itself or one that is missing, and each one has the time 1 or 2.
func few(visit func(cells []api.Cell)) {
	for _, ids := range names {
		for n := range len(ids) + 1 {
			for parents := range power(n+2, n) {
				for times := range power(2, n) {
					var cells []api.Cell
					for i := range n {
						after := append([]api.ID{start, id(9, 9, 9)}, ids[:n]...)[parents/power(n+2, i)%(n+2)]
						cells = append(cells, cell(ids[i], 1+times/power(2, i)%2, after, string(rune('a'+i))))
					}
					visit(cells)
				}
			}
		}
	}
}

func power(a, n int) int {
	p := 1
	for range n {
		p *= a
	}
	return p
}

// random returns up to 128 cells that form a list, in an order in which they can be inserted. Many of them have a parent that has others, and many follow each other like typed characters.
func random(r *rand.Rand, n int) (cells []api.Cell) {
	used, times := map[api.ID]bool{}, map[api.Dot]int{}
	devices, seqs, latest := 1+r.Intn(6), 2+r.Intn(20), 1+r.Intn(50)
	for len(cells) < n {
		x := id(r.Intn(devices), 1+r.Intn(seqs), r.Intn(64))
		if used[x] {
			continue
		}
		used[x] = true
		operation := api.Dot{Device: x.Device, Seq: x.Seq}
		if times[operation] == 0 {
			times[operation] = 1 + r.Intn(latest)
		}
		after := start
		switch k := r.Intn(10); {
		case len(cells) > 0 && k < 5:
			after = cells[len(cells)-1].ID
		case len(cells) > 0 && k < 9:
			after = cells[r.Intn(len(cells))].ID
		}
		c := cell(x, times[operation], after, fmt.Sprint(len(cells), " "))
		c.Gone = r.Intn(4) == 0
		cells = append(cells, c)
	}
	return cells
}

func shuffled(r *rand.Rand, cells []api.Cell) []api.Cell {
	l := slices.Clone(cells)
	r.Shuffle(len(l), func(i, j int) { l[i], l[j] = l[j], l[i] })
	return l
}

func orderOf(t *testing.T, cells []api.Cell) []api.Cell {
	t.Helper()
	l, e := Order(cells)
	if e != api.OK {
		t.Fatal("Order", cells, e)
	}
	if e = Check(l); e != api.OK {
		t.Fatal("Check", l, e)
	}
	return l
}

func insertOf(t *testing.T, l []api.Cell, c api.Cell) []api.Cell {
	t.Helper()
	x, e := Insert(l, c)
	if e != api.OK || len(x) != len(l)+1 {
		t.Fatal("Insert", l, c, x, e)
	}
	return x
}

func eraseOf(t *testing.T, l []api.Cell, c api.ID) []api.Cell {
	t.Helper()
	x, e := Erase(l, c)
	if e != api.OK || len(x) != len(l) {
		t.Fatal("Erase", l, c, x, e)
	}
	return x
}

// refuseList checks that no function accepts l as a list.
func refuseList(t *testing.T, name string, l []api.Cell) {
	t.Helper()
	if e := Check(l); e != api.ErrSequence {
		t.Error("Check", name, e)
	}
	others := []api.Cell{{}, cell(id(400, 9, 9), 9, start, "x"), cell(id(400, 9, 9), 0, start, "x")}
	for _, c := range append(slices.Clone(l), others...) {
		if x, e := Insert(l, c); e != api.ErrSequence || len(x) != 0 {
			t.Error("Insert", name, c.ID, x, e)
		}
		for _, other := range []api.ID{c.ID, c.After} {
			if x, e := Erase(l, other); e != api.ErrSequence || len(x) != 0 {
				t.Error("Erase", name, other, x, e)
			}
		}
	}
}

// refuse checks that no function accepts cells that form no list, wherever each of them stands.
func refuse(t *testing.T, name string, cells []api.Cell) {
	t.Helper()
	for i := range cells {
		turned := slices.Concat(cells[i:], cells[:i])
		if l, e := Order(turned); e != api.ErrSequence || len(l) != 0 {
			t.Error("Order", name, i, l, e)
		}
		refuseList(t, name, turned)
	}
	for i, c := range cells {
		refuseInsert(t, name, slices.Delete(slices.Clone(cells), i, i+1), c)
	}
}

// refuseInsert checks that a cell cannot be inserted, neither in cells as they are, nor in their list, if they form one.
func refuseInsert(t *testing.T, name string, cells []api.Cell, c api.Cell) {
	t.Helper()
	tried := [][]api.Cell{cells}
	if formed(cells) {
		tried = append(tried, sorted(cells))
	}
	for _, l := range tried {
		if x, e := Insert(l, c); e != api.ErrSequence || len(x) != 0 {
			t.Error("Insert", name, c, x, e)
		}
	}
}

func TestOrderKnown(t *testing.T) {
	a, b, c := id(0, 1, 0), id(1, 1, 0), id(2, 1, 0)
	for i, x := range []struct {
		cells []api.Cell
		want  string
	}{
		{nil, ""},
		{[]api.Cell{}, ""},
		{[]api.Cell{cell(a, 1, start, "a")}, "a"},
		// The examples of the chapter.
		{[]api.Cell{cell(a, 1, start, "a"), cell(b, 2, start, "b")}, "ba"},
		{[]api.Cell{cell(a, 2, start, "a"), cell(b, 1, start, "b")}, "ab"},
		{[]api.Cell{cell(a, 1, start, "a"), cell(b, 2, a, "b"), cell(c, 3, a, "c")}, "acb"},
		// Two devices insert at the beginning at the same time.
		{[]api.Cell{cell(a, 1, start, "a"), cell(b, 1, start, "b")}, "ba"},
		// Each number of the stamp decides if those before it are equal, whatever follows.
		{[]api.Cell{cell(id(5, 9, 9), 1, start, "a"), cell(id(4, 8, 8), 2, start, "b")}, "ba"},
		{[]api.Cell{cell(id(5, 1, 1), 7, start, "a"), cell(id(4, 8, 8), 7, start, "b")}, "ab"},
		{[]api.Cell{cell(id(5, 8, 8), 7, start, "a"), cell(id(5, 9, 1), 7, start, "b")}, "ba"},
		{[]api.Cell{cell(id(5, 8, 8), 7, start, "a"), cell(id(5, 8, 9), 7, start, "b")}, "ba"},
		{[]api.Cell{cell(id(5, 9, 0), 7, start, "a"), cell(id(5, 10, 0), 7, start, "b")}, "ba"},
		{[]api.Cell{cell(id(5, 9, 0), 9, start, "a"), cell(id(5, 8, 0), 10, start, "b")}, "ba"},
		{[]api.Cell{cell(id(511, 1<<20, 63), 1<<40-1, start, "a"), cell(id(0, 1, 0), 1<<40, start, "b")}, "ba"},
		{[]api.Cell{cell(id(511, 1, 0), 1<<40, start, "a"), cell(id(510, 1<<20, 63), 1<<40, start, "b")}, "ab"},
		{[]api.Cell{cell(id(511, 1<<20, 0), 1<<40, start, "a"), cell(id(511, 1<<20-1, 63), 1<<40, start, "b")}, "ab"},
		{[]api.Cell{cell(id(511, 1<<20, 63), 1<<40, start, "a"), cell(id(511, 1<<20, 62), 1<<40, start, "b")}, "ab"},
		// Values and erasure do not count.
		{[]api.Cell{cell(a, 1, start, "z"), cell(b, 2, start, "")}, "z"},
		{[]api.Cell{{ID: a, Time: 1, Value: "z", Gone: true}, cell(b, 2, start, "a")}, "az"},
		{[]api.Cell{cell(a, 1, start, "a"), {ID: b, Time: 2, Value: "z", Gone: true}}, "za"},
		// A cell may be older than its parent; what is below does not change the order of the cells above.
		{[]api.Cell{cell(a, 5, start, "a"), cell(b, 1, a, "b"), cell(c, 9, b, "c"), cell(id(3, 1, 0), 4, a, "d")}, "adbc"},
		{[]api.Cell{cell(a, 1, start, "a"), cell(b, 2, start, "b"), cell(c, 3, a, "c")}, "bac"},
		// What is typed in one go stays together, unless something is inserted later.
		{slices.Concat(typed(0, 1, 1, start, "abc"), typed(1, 1, 1, start, "xyz")), "xyzabc"},
		{slices.Concat(typed(0, 1, 1, start, "abc"), typed(1, 1, 2, id(0, 1, 0), "xy")), "axybc"},
		{slices.Concat(typed(0, 1, 1, start, "abc"), typed(1, 1, 2, id(0, 1, 2), "xy"), typed(2, 1, 2, id(0, 1, 2), "z")), "abczxy"},
		{slices.Concat(typed(0, 1, 2, start, "abc"), typed(1, 1, 1, id(0, 1, 0), "xy")), "abcxy"},
		{slices.Concat(typed(0, 1, 1, start, "ab"), []api.Cell{cell(id(0, 2, 0), 1, id(0, 1, 0), "x"), cell(id(0, 1, 2), 1, id(0, 1, 0), "y")}), "axyb"},
		{slices.Concat(typed(4, 1, 3, start, "ab"), typed(4, 2, 5, id(4, 1, 0), "cd"), typed(9, 1, 4, id(4, 1, 0), "ef"), typed(9, 2, 6, id(4, 2, 0), "gh")), "acghdefb"},
	} {
		for range 5 {
			l := orderOf(t, x.cells)
			if show(l) != x.want {
				t.Error(i, show(l))
			}
			x.cells = slices.Concat(x.cells[len(x.cells)/2:], x.cells[:len(x.cells)/2])
			slices.Reverse(x.cells)
		}
	}
}

// All fields of the cells are kept.
func TestOrderKeeps(t *testing.T) {
	a := api.Cell{ID: id(511, 1<<20, 63), Time: 1 << 40, Value: strings.Repeat("\xff", 4096)}
	b := api.Cell{ID: id(0, 1, 0), After: a.ID, Time: 1, Gone: true}
	c := api.Cell{ID: id(0, 1, 1), After: a.ID, Time: 1, Value: "c"}
	for _, cells := range [][]api.Cell{{a, b, c}, {c, b, a}, {b, a, c}} {
		if l := orderOf(t, cells); !slices.Equal(l, []api.Cell{a, c, b}) {
			t.Error(l)
		}
	}
}

// Every limit of every field is accepted, and what is beyond it refused.
func TestLimits(t *testing.T) {
	a := cell(id(7, 7, 7), 7, start, "a")
	for i, x := range []struct {
		change func(c *api.Cell)
		ok     bool
	}{
		{func(c *api.Cell) {}, true},
		{func(c *api.Cell) { c.ID = id(0, 1, 0) }, true},
		{func(c *api.Cell) { c.ID = id(511, 1<<20, 63) }, true},
		{func(c *api.Cell) { c.ID.Device = -1 }, false},
		{func(c *api.Cell) { c.ID.Device = 512 }, false},
		{func(c *api.Cell) { c.ID.Device = math.MinInt }, false},
		{func(c *api.Cell) { c.ID.Device = math.MaxInt }, false},
		{func(c *api.Cell) { c.ID.Device = 1 << 32 }, false},
		{func(c *api.Cell) { c.ID.Seq = 0 }, false},
		{func(c *api.Cell) { c.ID.Seq = -1 }, false},
		{func(c *api.Cell) { c.ID.Seq = 1<<20 + 1 }, false},
		{func(c *api.Cell) { c.ID.Seq = math.MinInt }, false},
		{func(c *api.Cell) { c.ID.Seq = math.MaxInt }, false},
		{func(c *api.Cell) { c.ID.Seq = 1<<32 + 1 }, false},
		{func(c *api.Cell) { c.ID.At = -1 }, false},
		{func(c *api.Cell) { c.ID.At = 64 }, false},
		{func(c *api.Cell) { c.ID.At = math.MinInt }, false},
		{func(c *api.Cell) { c.ID.At = math.MaxInt }, false},
		{func(c *api.Cell) { c.ID = id(0, 0, 0) }, false},
		{func(c *api.Cell) { c.ID = id(0, 0, 1) }, false},
		{func(c *api.Cell) { c.Time = 1 }, true},
		{func(c *api.Cell) { c.Time = 1 << 40 }, true},
		{func(c *api.Cell) { c.Time = 0 }, false},
		{func(c *api.Cell) { c.Time = -1 }, false},
		{func(c *api.Cell) { c.Time = 1<<40 + 1 }, false},
		{func(c *api.Cell) { c.Time = math.MinInt }, false},
		{func(c *api.Cell) { c.Time = math.MaxInt }, false},
		{func(c *api.Cell) { c.Value = "" }, true},
		{func(c *api.Cell) { c.Value = "\x00\xff" }, true},
		{func(c *api.Cell) { c.Value = strings.Repeat("x", 4096) }, true},
		{func(c *api.Cell) { c.Value = strings.Repeat("x", 4097) }, false},
		{func(c *api.Cell) { c.Value = strings.Repeat("ä", 2048) }, true},
		{func(c *api.Cell) { c.Value = strings.Repeat("ä", 2049) }, false},
		{func(c *api.Cell) { c.After = start }, true},
		{func(c *api.Cell) { c.After = id(7, 7, 8) }, false},
		{func(c *api.Cell) { c.After = id(7, 8, 7) }, false},
		{func(c *api.Cell) { c.After = id(8, 7, 7) }, false},
		{func(c *api.Cell) { c.After = id(0, 1, 0) }, false},
		{func(c *api.Cell) { c.After = id(0, 0, 1) }, false},
		{func(c *api.Cell) { c.After = id(1, 0, 0) }, false},
		{func(c *api.Cell) { c.After = id(-1, 1, 0) }, false},
		{func(c *api.Cell) { c.After = id(0, -1, 0) }, false},
		{func(c *api.Cell) { c.After = id(0, 0, -1) }, false},
		{func(c *api.Cell) { c.After = id(512, 1, 0) }, false},
		{func(c *api.Cell) { c.After = id(0, 1<<20+1, 0) }, false},
		{func(c *api.Cell) { c.After = id(0, 1, 64) }, false},
		{func(c *api.Cell) { c.After = c.ID }, false},
		{func(c *api.Cell) { c.ID = a.ID }, false},
		{func(c *api.Cell) { *c = a }, false},
		{func(c *api.Cell) { c.ID = id(7, 7, 8) }, false}, // one operation, two times
		{func(c *api.Cell) { c.ID, c.Time = id(7, 7, 8), 7 }, true},
		{func(c *api.Cell) { c.ID = id(7, 8, 7) }, true},
		{func(c *api.Cell) { c.ID = id(8, 7, 7) }, true},
	} {
		c := cell(id(3, 3, 3), 3, a.ID, "c")
		x.change(&c)
		cells := []api.Cell{a, c}
		if formed(cells) != x.ok {
			t.Error("formed", i)
		}
		if !x.ok {
			refuse(t, fmt.Sprint(i), cells)
			refuse(t, fmt.Sprint(i, " later"), slices.Concat(typed(1, 2, 9, a.ID, "pq"), cells))
			continue
		}
		if l := orderOf(t, cells); !slices.Equal(l, sorted(cells)) {
			t.Error(i, l)
		}
		if l := insertOf(t, []api.Cell{a}, c); !slices.Equal(l, sorted(cells)) {
			t.Error(i, l)
		}
	}
}

// A parent that is not valid does not exist, even if a cell has its ID.
func TestParentsNotValid(t *testing.T) {
	for _, x := range []api.ID{start, id(0, 0, 1), id(512, 1, 0), id(-1, 1, 0), id(0, 1<<20+1, 0), id(0, 1, 64), id(0, 1, -1)} {
		refuse(t, fmt.Sprint(x), []api.Cell{cell(x, 1, start, "a"), cell(id(1, 1, 0), 2, x, "b")})
	}
}

func TestFormsRefused(t *testing.T) {
	abc := typed(0, 1, 1, start, "abc")
	circle := func(n int) (l []api.Cell) {
		l = typed(3, 1, 5, start, strings.Repeat("x", n))
		l[0].After = l[n-1].ID
		return l
	}
	changed := func(at int, change func(c *api.Cell)) []api.Cell {
		l := slices.Clone(abc)
		change(&l[at])
		return l
	}
	gone := slices.Clone(abc[1:2])
	gone[0].Gone = true
	for name, cells := range map[string][]api.Cell{
		"a after b, b after a":           {cell(id(0, 1, 0), 1, id(1, 1, 0), "a"), cell(id(1, 1, 0), 1, id(0, 1, 0), "b")},
		"circle of 1":                    circle(1),
		"circle of 2":                    circle(2),
		"circle of 3":                    circle(3),
		"circle of 64":                   circle(64),
		"circle beside a list":           slices.Concat(abc, circle(3)),
		"circle of 1 beside a list":      slices.Concat(abc, circle(1)),
		"below a circle":                 slices.Concat(abc, circle(3), typed(4, 1, 1, id(3, 1, 1), "yz")),
		"two circles":                    slices.Concat(circle(2), typed(4, 1, 1, id(4, 1, 0), "y")),
		"no first one":                   abc[1:],
		"no one in the middle":           {abc[0], abc[2]},
		"parent missing, beside a list":  slices.Concat(abc, typed(4, 1, 1, id(3, 1, 1), "yz")),
		"twice the same":                 slices.Concat(abc, abc[1:2]),
		"twice all":                      slices.Concat(abc, abc),
		"twice, once erased":             slices.Concat(abc, gone),
		"twice, other value":             slices.Concat(abc, []api.Cell{cell(id(0, 1, 1), 1, id(0, 1, 0), "x")}),
		"twice, other parent":            slices.Concat(abc, []api.Cell{cell(id(0, 1, 1), 1, start, "b")}),
		"twice, other time":              slices.Concat(abc, []api.Cell{cell(id(0, 1, 1), 2, id(0, 1, 0), "b")}),
		"other time, first":              changed(0, func(c *api.Cell) { c.Time = 2 }),
		"other time, middle":             changed(1, func(c *api.Cell) { c.Time = 2 }),
		"other time, last":               changed(2, func(c *api.Cell) { c.Time = 2 }),
		"other time, apart":              slices.Concat(abc, typed(1, 1, 1, id(0, 1, 0), "xyz"), []api.Cell{cell(id(0, 1, 3), 2, start, "d")}),
		"other time, earlier":            {cell(id(4, 1, 5), 9, start, "a"), cell(id(4, 2, 0), 9, start, "b"), cell(id(4, 1, 63), 8, start, "c")},
		"a parent that is not of a cell": changed(0, func(c *api.Cell) { c.After = id(0, 1, 3) }),
	} {
		if formed(cells) {
			t.Error("formed", name)
		}
		refuse(t, name, cells)
	}
}

// Only in one order are cells their list.
func TestCheckOrder(t *testing.T) {
	cells := slices.Concat(typed(0, 1, 4, start, "ab"), typed(1, 1, 4, id(0, 1, 0), "x"), typed(2, 1, 3, start, "yz"))
	ok := 0
	permutations(cells, func(l []api.Cell) {
		switch e := Check(l); {
		case show(l) == "axbyz":
			ok++
			if e != api.OK {
				t.Error(e)
			}
		case e != api.ErrSequence:
			t.Error(show(l), e)
		default:
			refuseList(t, show(l), l)
		}
	})
	if ok != 1 {
		t.Error(ok)
	}
}

// Cells that form a list in themselves, but not in this order, can neither be inserted to nor erased from.
func TestWrongOrder(t *testing.T) {
	a, b := cell(id(0, 1, 0), 1, start, "a"), cell(id(1, 1, 0), 2, start, "b")
	c := cell(id(2, 1, 0), 3, a.ID, "c")
	for i, l := range [][]api.Cell{{a, b}, {c, a}, {a, b, c}, {c, b, a}, {b, c, a}, {a, c, b}, {c, a, b}} {
		refuseList(t, fmt.Sprint(i), l)
	}
	for i, l := range [][]api.Cell{{b, a}, {a, c}, {b, a, c}} {
		if e := Check(l); e != api.OK {
			t.Error(i, e)
		}
	}
}

func TestInsertKnown(t *testing.T) {
	l := insertOf(t, nil, cell(id(0, 1, 0), 1, start, "a"))
	for i, x := range []struct {
		c    api.Cell
		want string
	}{
		{cell(id(0, 2, 0), 2, id(0, 1, 0), "b"), "ab"},
		{cell(id(1, 1, 0), 2, id(0, 1, 0), "c"), "acb"},
		{cell(id(2, 1, 0), 1, id(0, 1, 0), "d"), "acbd"},
		{cell(id(2, 2, 0), 9, id(0, 2, 0), "e"), "acbed"},
		{cell(id(2, 2, 1), 9, id(2, 2, 0), "f"), "acbefd"},
		{cell(id(2, 2, 63), 9, start, "g"), "gacbefd"},
		{cell(id(3, 1, 0), 1, start, "h"), "ghacbefd"},
		{cell(id(0, 1, 1), 1, start, "i"), "ghiacbefd"},
		{cell(id(3, 1, 1), 1, id(0, 1, 1), ""), "ghiacbefd"},
		{cell(id(511, 1<<20, 63), 1<<40, id(0, 1, 0), "j"), "ghiajcbefd"},
	} {
		if l = insertOf(t, l, x.c); show(l) != x.want {
			t.Error(i, show(l))
		}
		if at, ok := Find(l, x.c.ID); !ok || l[at] != x.c {
			t.Error(i, at, ok)
		}
	}
}

func TestInsertRefused(t *testing.T) {
	a, b := cell(id(0, 1, 0), 1, start, "a"), cell(id(1, 1, 0), 2, id(0, 1, 0), "b")
	gone := func(c api.Cell) api.Cell {
		c.Gone = true
		return c
	}
	for i, c := range []api.Cell{
		gone(cell(id(5, 1, 0), 9, start, "x")),
		gone(cell(id(5, 1, 0), 9, a.ID, "x")),
		a, b, gone(a), gone(b),
		cell(a.ID, 1, start, "x"),
		cell(a.ID, 9, start, "x"),
		cell(id(5, 1, 0), 9, id(7, 1, 0), "x"),
		cell(id(5, 1, 0), 9, id(0, 1, 1), "x"),
		cell(id(5, 1, 0), 9, id(5, 1, 0), "x"),
		cell(id(0, 1, 1), 2, start, "x"),
		cell(id(1, 1, 5), 1, b.ID, "x"),
		cell(id(5, 1, 0), 0, start, "x"),
		cell(id(5, 1, 64), 9, start, "x"),
		{},
	} {
		refuseInsert(t, fmt.Sprint(i), []api.Cell{a, b}, c)
		refuseInsert(t, fmt.Sprint(i, " erased"), []api.Cell{gone(a), gone(b)}, c)
	}
	refuseInsert(t, "into nothing", nil, b)
	refuseInsert(t, "gone, into nothing", nil, gone(a))
	refuseInsert(t, "the parent that was missing", []api.Cell{b}, a)
	refuseInsert(t, "the parent that was missing, before its place", []api.Cell{b, cell(id(2, 1, 0), 1, start, "c")}, a)
}

func TestEraseKnown(t *testing.T) {
	l := orderOf(t, slices.Concat(typed(0, 1, 1, start, "abc"), typed(1, 1, 2, id(0, 1, 0), "xy"))) // axybc
	x := l
	for i, step := range []struct {
		erased api.ID
		want   string
	}{
		{id(1, 1, 0), "aybc"}, {id(0, 1, 0), "ybc"}, {id(0, 1, 0), "ybc"}, {id(0, 1, 2), "yb"}, {id(1, 1, 1), "b"}, {id(1, 1, 0), "b"}, {id(0, 1, 1), ""}, {id(0, 1, 1), ""},
	} {
		x = eraseOf(t, x, step.erased)
		if s := strings.Join(Visible(x), ""); s != step.want || show(x) != "axybc" {
			t.Error(i, s, show(x))
		}
		for j := range x {
			c := x[j]
			c.Gone = false
			if c != l[j] {
				t.Error(i, j, c)
			}
		}
	}
	// After erased cells, cells are inserted like after any others, and stay visible.
	x = insertOf(t, x, cell(id(2, 1, 0), 9, id(0, 1, 1), "z"))
	x = insertOf(t, x, cell(id(2, 2, 0), 1, id(0, 1, 0), "w"))
	if show(x) != "axywbzc" || strings.Join(Visible(x), "") != "wz" {
		t.Error(show(x), Visible(x))
	}
}

func TestEraseRefused(t *testing.T) {
	l := orderOf(t, slices.Concat(typed(0, 1, 1, start, "ab"), typed(1, 2, 2, id(0, 1, 0), "xy")))
	for _, x := range []api.ID{start, id(0, 1, 2), id(0, 2, 0), id(2, 1, 0), id(1, 1, 0), id(1, 2, 2), id(-1, 1, 0), id(512, 1, 0), id(0, 1<<20+1, 0), id(0, 1, 64), id(math.MinInt, math.MaxInt, math.MinInt)} {
		for _, cells := range [][]api.Cell{l, nil, {}} {
			if y, e := Erase(cells, x); e != api.ErrSequence || len(y) != 0 {
				t.Error(x, y, e)
			}
		}
	}
	if y, e := Erase(nil, id(0, 1, 0)); e != api.ErrSequence || len(y) != 0 {
		t.Error(y, e)
	}
}

// Visible and Find accept all lists, also those that are none of cells that form one.
func TestVisibleAndFind(t *testing.T) {
	odd := []api.Cell{
		{},
		{ID: id(7, 1, 0), Value: "a", Time: -5},
		{ID: id(7, 1, 0), Value: "b"},
		{ID: id(-1, 0, 99), After: id(4, 4, 4), Value: strings.Repeat("x", 5000)},
		{ID: id(7, 1, 1), Value: "c", Gone: true},
		{ID: start, Value: "d"},
		{ID: id(7, 1, 1), Value: "e"},
		{ID: id(math.MaxInt, math.MinInt, math.MaxInt), Value: "a", Gone: true},
	}
	for i, x := range []struct {
		l    []api.Cell
		want []string
	}{
		{nil, nil},
		{[]api.Cell{}, nil},
		{odd, []string{"", "a", "b", strings.Repeat("x", 5000), "d", "e"}},
		{odd[4:5], nil},
		{odd[7:], nil},
		{odd[5:], []string{"d", "e"}},
		{typed(0, 1, 1, start, "abc"), []string{"a", "b", "c"}},
		{typed(0, 1, 1, id(0, 1, 0), "aa"), []string{"a", "a"}},
	} {
		if v := Visible(x.l); !slices.Equal(v, x.want) {
			t.Error(i, v)
		}
	}
	for i, x := range []struct {
		l  []api.Cell
		id api.ID
		at int
		ok bool
	}{
		{nil, start, 0, false}, {nil, id(1, 1, 0), 0, false}, {[]api.Cell{}, id(1, 1, 0), 0, false},
		{odd, start, 0, true}, {odd[1:], start, 4, true}, {odd, id(7, 1, 0), 1, true}, {odd, id(7, 1, 1), 4, true}, {odd[5:], id(7, 1, 1), 1, true},
		{odd, id(-1, 0, 99), 3, true}, {odd, id(math.MaxInt, math.MinInt, math.MaxInt), 7, true},
		{odd, id(4, 4, 4), 0, false}, {odd, id(7, 1, 2), 0, false}, {odd, id(7, 2, 0), 0, false}, {odd, id(8, 1, 0), 0, false},
		{odd[1:5], start, 0, false},
	} {
		if at, ok := Find(x.l, x.id); at != x.at || ok != x.ok {
			t.Error(i, at, ok)
		}
	}
}

// In all sets of few cells, the result is that of the second calculation, in whichever order they are given and inserted.
func TestFew(t *testing.T) {
	lists := 0
	few(func(cells []api.Cell) {
		l, e := Order(cells)
		if !formed(cells) {
			if e != api.ErrSequence || len(l) != 0 || Check(cells) != api.ErrSequence {
				t.Fatal(cells, l, e)
			}
			return
		}
		lists++
		if e != api.OK || !slices.Equal(l, sorted(cells)) {
			t.Fatal(cells, l, e)
		}
		permutations(cells, func(given []api.Cell) {
			if x, e := Order(given); e != api.OK || !slices.Equal(x, l) {
				t.Fatal(given, x, e)
			}
			if e := Check(given); (e == api.OK) != slices.Equal(given, l) {
				t.Fatal(given, e)
			}
			insertAll(t, given, l)
		})
		consequences(t, l)
	})
	if lists < 5000 {
		t.Error(lists)
	}
}

// insertAll inserts cells one after the other: this leads to their list, but for an order in which a cell comes before its parent.
func insertAll(t *testing.T, given, want []api.Cell) {
	t.Helper()
	var l []api.Cell
	for i, c := range given {
		x, e := Insert(l, c)
		if !formed(given[:i+1]) {
			if e != api.ErrSequence || len(x) != 0 {
				t.Fatal(given, i, x, e)
			}
			return
		}
		if e != api.OK {
			t.Fatal(given, i, e)
		}
		if at, _ := Find(x, c.ID); !slices.Equal(slices.Delete(slices.Clone(x), at, at+1), l) {
			t.Fatal("a cell has changed its place", given, i, x)
		}
		l = x
	}
	if !slices.Equal(l, want) {
		t.Fatal(given, l)
	}
}

// consequences checks what P13.4 says about the places of the cells of a list.
func consequences(t *testing.T, l []api.Cell) {
	t.Helper()
	parents := above(l)
	for i, c := range l {
		parent, ok := Find(l, c.After)
		if !ok {
			parent = -1
		}
		for _, between := range l[parent+1 : i] {
			if !lies(parents, between.ID, c.After) {
				t.Fatal("a cell that is not below stands between a cell and its parent", l, c, between)
			}
		}
		greatest := true
		for _, other := range l {
			if other.After == c.After && slices.Compare(numbers(other), numbers(c)) > 0 {
				greatest = false
			}
		}
		if greatest != (i == parent+1) {
			t.Fatal("not the greatest one of its siblings is first", l, c)
		}
	}
}

func numbers(c api.Cell) []int { return []int{c.Time, c.ID.Device, c.ID.Seq, c.ID.At} }

// Cells that are inserted in different orders, and erased at any time in between, lead to the same list.
func TestErasedInBetween(t *testing.T) {
	r := rand.New(rand.NewSource(1))
	for range 300 {
		cells := random(r, 1+r.Intn(25))
		want := sorted(cells)
		for range 3 {
			var l []api.Cell
			var erasures []api.ID
			waiting := shuffled(r, cells)
			for len(waiting)+len(erasures) > 0 {
				if n := len(erasures); n > 0 && r.Intn(2) == 0 {
					i := r.Intn(n)
					l = eraseOf(t, l, erasures[i])
					if r.Intn(3) > 0 { // now and then it is erased again
						erasures = slices.Delete(erasures, i, i+1)
					}
					continue
				}
				i := slices.IndexFunc(waiting, func(c api.Cell) bool {
					_, ok := Find(l, c.After)
					return ok || c.After == start
				})
				if i < 0 {
					continue
				}
				c := waiting[i]
				waiting = slices.Delete(waiting, i, i+1)
				if c.Gone {
					erasures = append(erasures, c.ID)
				}
				c.Gone = false
				l = insertOf(t, l, c)
			}
			if !slices.Equal(l, want) {
				t.Fatal(cells, l)
			}
		}
	}
}

func TestRandom(t *testing.T) {
	r := rand.New(rand.NewSource(2))
	for range 300 {
		cells := random(r, 1+r.Intn(120))
		want := sorted(cells)
		for range 3 {
			if l := orderOf(t, shuffled(r, cells)); !slices.Equal(l, want) {
				t.Fatal(cells, l)
			}
		}
		consequences(t, want)
		i, j := r.Intn(len(want)), r.Intn(len(want))
		want[i], want[j] = want[j], want[i]
		if e := Check(want); (e == api.OK) != (i == j) {
			t.Fatal(i, j, want, e)
		}
	}
}

// A cell whose stamp is greater than those of its siblings stands directly after its parent, also if the parent is erased, or has much below it.
func TestLatest(t *testing.T) {
	r := rand.New(rand.NewSource(3))
	for range 200 {
		l := sorted(random(r, r.Intn(60)))
		at := r.Intn(len(l)+1) - 1
		after := start
		if at >= 0 {
			after = l[at].ID
		}
		c := cell(id(r.Intn(512), 1000+r.Intn(1000), r.Intn(64)), 51, after, "new")
		if x := insertOf(t, l, c); !slices.Equal(x, slices.Insert(slices.Clone(l), at+1, c)) {
			t.Fatal(l, c, x)
		}
	}
}

// Neither arguments nor earlier results are changed, also where they have room for more cells.
func TestPure(t *testing.T) {
	r := rand.New(rand.NewSource(4))
	for range 50 {
		cells := random(r, 2+r.Intn(20))
		copied := slices.Clone(cells)
		l := orderOf(t, cells)
		if !slices.Equal(cells, copied) {
			t.Fatal("Order has changed its argument")
		}
		room := append(make([]api.Cell, 0, 2*len(l)), l...)
		a := insertOf(t, room, cell(id(88, 1, 0), 60, start, "a"))
		b := insertOf(t, room, cell(id(89, 1, 0), 60, start, "b"))
		c := eraseOf(t, room, room[len(room)-1].ID)
		d := eraseOf(t, room, room[0].ID)
		Visible(room)
		if !slices.Equal(room, l) || !slices.Equal(room[:cap(room)][len(l):], make([]api.Cell, cap(room)-len(l))) {
			t.Fatal("an argument was changed")
		}
		if !slices.Equal(a[1:], l) || !slices.Equal(b[1:], l) || a[0].Value != "a" || b[0].Value != "b" {
			t.Fatal(a, b)
		}
		if !slices.Equal(c[:len(c)-1], l[:len(l)-1]) || !slices.Equal(d[1:], l[1:]) || !c[len(c)-1].Gone || !d[0].Gone {
			t.Fatal(c, d)
		}
	}
}

// deep returns a long chain of parents with a cell beside each one, which comes after the chain, before it, or in turn.
func deep(n int, time func(i int) int) (cells []api.Cell) {
	after := start
	for i := range n {
		c := cell(id(1, 1+i/64, i%64), 5, after, "")
		beside := cell(id(2+i%64, 1+i/64, 0), time(i), after, "")
		cells = append(cells, c, beside)
		after = c.ID
	}
	return cells
}

// Long chains of parents need little room on the stack, however their cells are ordered.
func TestDeep(t *testing.T) {
	before := debug.SetMaxStack(1 << 20)
	defer debug.SetMaxStack(before)
	const n = 100000
	for name, x := range map[string]struct {
		time func(i int) int
		last int // the place of the last cell of the chain
	}{
		"after the chain":  {func(int) int { return 4 }, n - 1},
		"before the chain": {func(int) int { return 6 }, 2*n - 1},
		"in turn":          {func(i int) int { return 4 + i%2*2 }, n - 1 + n/2},
	} {
		cells := deep(n, x.time)
		l := orderOf(t, cells)
		if at, ok := Find(l, cells[2*n-2].ID); at != x.last || !ok {
			t.Error(name, at, ok)
		}
		cells[0].After = cells[2*n-2].ID
		if l, e := Order(cells); e != api.ErrSequence || len(l) != 0 {
			t.Error(name, "circle", e)
		}
	}
}

// Many siblings are ordered.
func TestWide(t *testing.T) {
	var cells []api.Cell
	for i := range 60000 {
		cells = append(cells, cell(id(i*7%512, 1+i, i%64), 1+i*31%1000, start, ""))
	}
	if l := orderOf(t, cells); !slices.Equal(l, sorted(cells)) {
		t.Error("order")
	}
}

// FuzzSequence reads cells from bytes, some of which are not valid, and compares all results with the second calculation.
func FuzzSequence(f *testing.F) {
	f.Add([]byte{0, 0, 1, 1, 0, 1, 0, 2, 0, 1, 0, 3})
	f.Add([]byte{0, 1, 0, 9, 1, 2, 3, 4, 2, 1, 5, 6, 17, 0, 0, 0})
	f.Fuzz(func(t *testing.T, data []byte) {
		if len(data) > 400 {
			return
		}
		var cells []api.Cell
		for len(data) >= 4 {
			after := start
			if n := int(data[1] & 31); n > 0 && n <= len(cells) {
				after = cells[len(cells)-n].ID
			} else if n > 30 {
				after = id(int(data[0]), 1, 0)
			}
			c := cell(id(int(data[0]>>4)*36, int(data[0]&15), int(data[2])/3), int(data[3]), after, fmt.Sprint(len(cells)))
			c.Gone = data[1] > 128
			cells = append(cells, c)
			data = data[4:]
		}
		compareAll(t, cells)
	})
}

func compareAll(t *testing.T, cells []api.Cell) {
	l, e := Order(cells)
	if !formed(cells) {
		if e != api.ErrSequence || len(l) != 0 || Check(cells) != api.ErrSequence {
			t.Fatal(cells, l, e)
		}
		return
	}
	if e != api.OK || !slices.Equal(l, sorted(cells)) || Check(l) != api.OK {
		t.Fatal(cells, l, e)
	}
	if e := Check(cells); (e == api.OK) != slices.Equal(cells, l) {
		t.Fatal(cells, e)
	}
	for i := range cells {
		visible := slices.Clone(cells)
		for j := range visible {
			visible[j].Gone = false
		}
		insertAll(t, slices.Concat(visible[i:], visible[:i]), sorted(visible))
	}
	consequences(t, l)
}
