package calc_test

import (
	"math"
	"reflect"
	"slices"
	"strconv"
	"strings"
	"testing"

	"tallyhall/api"
	"tallyhall/calc"
	"tallyhall/cell"
	"tallyhall/fold"
	"tallyhall/input"
	"tallyhall/place"
	"tallyhall/plain"
	"tallyhall/rules"
	"tallyhall/solve"
)

// cube reads dims, of each its name, its solve, and members as name:parent:sign:formula, blanks between.
func cube(dims ...string) api.Outline {
	var o api.Outline
	for _, text := range dims {
		w := strings.Fields(text)
		d := api.Dim{Name: w[0], Solve: number(w[1])}
		for _, m := range w[2:] {
			p := strings.Split(m, ":")
			d.Members = append(d.Members, api.Member{Name: p[0], Parent: number(p[1]), Sign: number(p[2]), Formula: p[3]})
		}
		o.Dims = append(o.Dims, d)
	}
	return o
}

// entries reads places with numbers, as 1.0=7, blanks between.
func entries(text string) []api.Entry {
	var out []api.Entry
	for _, w := range strings.Fields(text) {
		at, n, _ := strings.Cut(w, "=")
		var p api.Place
		for _, m := range strings.Split(at, ".") {
			p = append(p, number(m))
		}
		out = append(out, api.Entry{At: p, N: number(n)})
	}
	return out
}

// numbers, blanks between.
func numbers(text string) []int {
	var out []int
	for _, w := range strings.Fields(text) {
		out = append(out, number(w))
	}
	return out
}

func number(text string) int {
	n, err := strconv.Atoi(text)
	if err != nil {
		panic(err)
	}
	return n
}

// places of an outline in order, counted up from the last dim: another way than chapter 4's.
func places(o api.Outline) []api.Place {
	out := []api.Place{{}}
	for _, d := range o.Dims {
		var longer []api.Place
		for _, p := range out {
			for k := range d.Members {
				longer = append(longer, append(slices.Clone(p), k))
			}
		}
		out = longer
	}
	return out
}

// faultsOf cells by number, as places.
func faultsOf(o api.Outline, cells []api.Cell) []api.Place {
	var out []api.Place
	for n, p := range places(o) {
		if cells[n].Kind == api.Fault {
			out = append(out, p)
		}
	}
	return out
}

func samePlaces(a, b []api.Place) bool {
	return slices.EqualFunc(a, b, func(p, q api.Place) bool { return slices.Equal(p, q) })
}

// cellsOne asks for all cells, and for the places of Faults among them.
func cellsOne(t *testing.T, o api.Outline, l []api.Entry, want []api.Cell) {
	t.Helper()
	if got, err := calc.All(o, l); err != nil || !slices.Equal(got, want) {
		t.Errorf("All(%v, %v) = %v, %v, want %v", o, l, got, err, want)
	}
	faults := faultsOf(o, want)
	if got, err := calc.Faults(o, l); err != nil || !samePlaces(got, faults) {
		t.Errorf("Faults(%v, %v) = %v, %v, want %v", o, l, got, err, faults)
	}
}

// textOne is cellsOne with cells as texts.
func textOne(t *testing.T, o api.Outline, l []api.Entry, want string) {
	t.Helper()
	var cells []api.Cell
	for _, w := range strings.Fields(want) {
		c, err := cell.Parse(w)
		if err != nil {
			t.Fatal(err)
		}
		cells = append(cells, c)
	}
	cellsOne(t, o, l, cells)
}

func orderOne(t *testing.T, o api.Outline, want []int) {
	t.Helper()
	if got, err := calc.Order(o); err != nil || !slices.Equal(got, want) {
		t.Errorf("Order(%v) = %v, %v, want %v", o, got, err, want)
	}
}

// wrongOne: All and Faults tell an error, and nothing else.
func wrongOne(t *testing.T, o api.Outline, l []api.Entry, e api.Errno) {
	t.Helper()
	if got, err := calc.All(o, l); len(got) > 0 || plain.Told(err) != e {
		t.Errorf("All(%v, %v) = %v, %v, want %v", o, l, got, err, e)
	}
	if got, err := calc.Faults(o, l); len(got) > 0 || plain.Told(err) != e {
		t.Errorf("Faults(%v, %v) = %v, %v, want %v", o, l, got, err, e)
	}
}

// shop has accounts, of which the margin has a formula, and times.
func shop(accounts, times string) api.Outline {
	return cube("account "+accounts+" profit:-1:1: sales:0:1: costs:0:-1: margin:-1:1:profit*100/sales", "time "+times+" year:-1:1: spring:0:1: autumn:0:1:")
}

const shopEntries = "1.1=200 1.2=100 2.1=150 2.2=20"

// The solves tell which places tell the margin of the year, and so its value, and its place in order.
func TestOrdinary(t *testing.T) {
	l := entries(shopEntries)
	for _, solves := range [][]string{{"0", "0"}, {"1", "0"}, {"9", "9"}} {
		o := shop(solves[0], solves[1])
		textOne(t, o, l, "130 50 80 300 200 100 170 150 20 43 25 80")
		orderOne(t, o, numbers("4 5 3 7 1 8 2 6 0 9 10 11"))
	}
	for _, solves := range [][]string{{"0", "1"}, {"8", "9"}} {
		o := shop(solves[0], solves[1])
		textOne(t, o, l, "130 50 80 300 200 100 170 150 20 105 25 80")
		orderOne(t, o, numbers("4 5 3 7 1 8 2 0 6 10 11 9"))
	}
	textOne(t, shop("1", "0"), nil, "- - - - - - - - - - - -")
	textOne(t, shop("1", "0"), entries("2.2=7"), "-7 - -7 - - - 7 - 7 - - -")
	textOne(t, shop("1", "0"), entries("1.1=0 2.2=7"), "-7 0 -7 0 0 - 7 - 7 # # -")
	textOne(t, shop("0", "1"), entries("1.1=0 2.2=7"), "-7 0 -7 0 0 - 7 - 7 # # -")
}

// One dim: cells, and an order, each worked out by hand.
func TestOneDim(t *testing.T) {
	for _, c := range []struct{ dim, written, cells, order string }{
		{"a:-1:1:", "", "-", "0"}, {"a:-1:0:", "0=0", "0", "0"}, {"a:-1:-1:", "0=-1000000", "-1000000", "0"}, {"a:-1:1:7", "", "7", "0"}, {"a:-1:1:1/0", "", "#", "0"},
		{"a:-1:1: b:-1:1: c:-1:1:", "0=1 2=3", "1 - 3", "0 1 2"},
		{"a:-1:1: b:0:1:", "1=4", "4 4", "1 0"}, {"a:-1:1: b:0:-1: c:0:1:", "1=4 2=1", "-3 4 1", "1 2 0"},
		// The least that could be next, though more could be.
		{"a:-1:1: b:0:1: c:-1:1: d:2:1:", "1=4 3=5", "4 4 5 5", "1 0 3 2"}, {"a:-1:1: b:-1:1: c:0:1: d:1:1:", "2=4 3=5", "4 5 4 5", "2 0 3 1"}, {"a:-1:1: b:-1:1: c:1:1: d:0:1:", "2=4 3=5", "5 4 4 5", "2 1 3 0"},
		// What counts nothing need not stand ahead, and what has only such parts is no leaf.
		{"a:-1:1: b:0:0:", "1=4", "- 4", "0 1"}, {"a:-1:1: b:0:0: c:0:1:", "1=4 2=5", "5 4 5", "1 2 0"}, {"a:-1:1: b:0:0: c:1:1:", "2=4", "- 4 4", "0 2 1"}, {"a:-1:1: b:0:0:1/0", "", "- #", "0 1"}, {"a:-1:1: b:0:1:1/0", "", "# #", "1 0"},
		// By formulas: of members ahead and behind, of one twice, and of names that rise otherwise than their places.
		{"a:-1:1:b b:-1:1:", "1=4", "4 4", "1 0"}, {"a:-1:1: b:-1:1:a", "0=4", "4 4", "0 1"}, {"a:-1:1:b*b+b b:-1:1:", "1=4", "20 4", "1 0"}, {"z:-1:1:y-b y:-1:1: b:-1:1:", "1=9 2=4", "5 9 4", "1 2 0"},
		{"a:-1:1:c b:-1:1: c:-1:1:b", "1=4", "4 4 4", "1 2 0"}, {"a:-1:1:b+1 b:-1:1:c+1 c:-1:1:d+1 d:-1:1:", "3=1", "4 3 2 1", "3 2 1 0"}, {"a:-1:1: b:0:1: c:0:0:a*100/b", "1=50", "50 50 100", "1 0 2"},
		{"a:-1:1: b:0:1: c:0:-1:b*3/10 d:-1:1:a-c", "1=200", "140 200 60 80", "1 2 0 3"}, {"d:-1:1:a-c a:-1:1: b:1:1: c:1:-1:b*3/10", "2=200", "80 140 200 60", "2 3 1 0"},
		// Beyond MaxValue.
		{"a:-1:1:b*1000000 b:-1:1:c*1000000 c:-1:1:", "2=1000000", "# 1000000000000 1000000", "2 1 0"}, {"a:-1:1: b:0:1:1000000*1000000 c:0:1:1 d:0:-1:1", "", "# 1000000000000 1 1", "1 2 3 0"}, {"a:-1:1: b:0:1:1000000*1000000 c:0:-1:1 d:0:1:1", "", "1000000000000 1000000000000 1 1", "1 2 3 0"},
	} {
		for _, solve := range []string{"0", "9"} {
			o := cube("x " + solve + " " + c.dim)
			textOne(t, o, entries(c.written), c.cells)
			orderOne(t, o, numbers(c.order))
		}
	}
}

// More dims than one, each told by its own solve.
func TestManyDims(t *testing.T) {
	o := cube("x 1 a:-1:1: b:-1:1: q:-1:1:a/b", "y 1 c:-1:1: d:-1:1: s:-1:1:c*d")
	l := entries("0.0=7 0.1=9 1.0=2 1.1=4")
	textOne(t, o, l, "7 9 63 2 4 8 3 2 7")
	orderOne(t, o, numbers("0 1 2 3 4 5 6 7 8"))
	o.Dims[1].Solve = 2
	textOne(t, o, l, "7 9 63 2 4 8 3 2 6")
	orderOne(t, o, numbers("0 1 2 3 4 5 6 7 8"))
	o = cube("x 0 t:-1:1: b:0:1:", "y 0 t:-1:1: b:0:1:", "z 0 t:-1:1: b:0:1:", "w 0 t:-1:1: b:0:1:")
	textOne(t, o, entries("1.1.1.1=5"), strings.Repeat("5 ", 16))
	orderOne(t, o, numbers("15 7 11 3 13 5 9 1 14 6 10 2 12 4 8 0"))
	o = cube("x 0 a:-1:1:", "y 0 a:-1:1:", "z 0 a:-1:1:", "w 0 a:-1:1:")
	textOne(t, o, entries("0.0.0.0=5"), "5")
	textOne(t, o, nil, "-")
	orderOne(t, o, []int{0})
	// A place of a leaf and a formula that refs to none needs none.
	o = cube("x 3 a:-1:1: b:0:1:", "y 2 a:-1:1:6*7 b:-1:1:")
	textOne(t, o, entries("1.1=5"), "42 5 42 5")
	orderOne(t, o, numbers("2 0 3 1"))
	o.Dims[1].Solve = 4
	textOne(t, o, entries("1.1=5"), "42 5 42 5")
	orderOne(t, o, numbers("0 2 3 1"))
}

// Faults come in order of their places, whichever dim tells them, and stand nowhere else.
func TestFaults(t *testing.T) {
	for _, c := range []struct {
		o       api.Outline
		written string
		want    []api.Place
	}{
		{cube("x 0 a:-1:1:"), "", nil},
		{cube("x 0 a:-1:1:"), "0=1000000", nil},
		{cube("x 0 a:-1:1:1/0"), "", []api.Place{{0}}},
		{cube("x 0 a:-1:1: b:0:1:1/0 c:-1:1: d:-1:1:b*c"), "2=7", []api.Place{{0}, {1}, {3}}},
		{cube("x 0 a:-1:1:1/0", "y 0 a:-1:1: b:-1:1:"), "", []api.Place{{0, 0}, {0, 1}}},
		{cube("x 0 a:-1:1: b:-1:1:1/a", "y 0 a:-1:1: b:-1:1:"), "0.0=0 0.1=2", []api.Place{{1, 0}}},
		{cube("x 1 a:-1:1: b:-1:1:1/a", "y 0 t:-1:1: a:0:1: b:0:1:"), "0.1=3 0.2=-3", []api.Place{{1, 0}}},
		{cube("x 0 a:-1:1: b:-1:1:1/a", "y 1 t:-1:1: a:0:1: b:0:1:"), "0.1=3 0.2=-3", nil},
		{cube("x 0 a:-1:1: b:-1:1:1/a", "y 1 t:-1:1: a:0:1: b:0:1:"), "0.1=3 0.2=0", []api.Place{{1, 0}, {1, 2}}},
		{shop("1", "0"), shopEntries, nil},
		{shop("1", "0"), "1.1=0 2.2=7", []api.Place{{3, 0}, {3, 1}}},
	} {
		got, err := calc.Faults(c.o, entries(c.written))
		if err != nil || !samePlaces(got, c.want) {
			t.Errorf("Faults(%v, %q) = %v, %v, want %v", c.o, c.written, got, err, c.want)
		}
	}
}

// isLeaf by the words of chapter 3.
func isLeaf(d api.Dim, i int) bool {
	return d.Members[i].Formula == "" && !slices.ContainsFunc(d.Members, func(m api.Member) bool { return m.Parent == i })
}

// teller of a place by the words of chapter 11, from the greatest solve down.
func teller(o api.Outline, p api.Place) int {
	for solve := api.MaxSolve; solve >= 0; solve-- {
		for i, d := range o.Dims {
			if d.Solve == solve && !isLeaf(d, p[i]) {
				return i
			}
		}
	}
	return -1
}

// tells whether the value at q is one of those by which that at p is told: all but one dim have the same member, and that one is named by a formula, or a part that counts.
func tells(o api.Outline, q, p api.Place) bool {
	dim := teller(o, p)
	if dim < 0 {
		return false
	}
	for i := range p {
		if i != dim && p[i] != q[i] {
			return false
		}
	}
	d := o.Dims[dim]
	part := d.Members[q[dim]]
	if text := d.Members[p[dim]].Formula; text != "" {
		words := strings.FieldsFunc(text, func(c rune) bool { return c < 'a' || c > 'z' })
		return slices.Contains(words, part.Name)
	}
	return part.Parent == p[dim] && part.Sign != 0
}

// orderAnotherWay looks for the next one from the first place on, each time.
func orderAnotherWay(o api.Outline) []int {
	all := places(o)
	needs := make([][]int, len(all))
	for n, p := range all {
		for k, q := range all {
			if tells(o, q, p) {
				needs[n] = append(needs[n], k)
			}
		}
	}
	var out []int
	stands := make([]bool, len(all))
	for range all {
		n := slices.IndexFunc(all, func(p api.Place) bool {
			n := numberOf(o, p)
			return !stands[n] && !slices.ContainsFunc(needs[n], func(k int) bool { return !stands[k] })
		})
		stands[n] = true
		out = append(out, n)
	}
	return out
}

func numberOf(o api.Outline, p api.Place) int {
	n := 0
	for i, d := range o.Dims {
		n = n*len(d.Members) + p[i]
	}
	return n
}

// dice that always fall alike.
type dice uint64

func (d *dice) roll(n int) int {
	*d = *d*6364136223846793005 + 1442695040888963407
	return int(uint64(*d) >> 33 % uint64(n))
}

// expression of so many operands, of which some are names.
func (d *dice) expression(names []string, operands int) string {
	if operands > 1 {
		k := 1 + d.roll(operands-1)
		return "(" + d.expression(names, k) + ")" + "+-**//"[d.roll(6):][:1] + "(" + d.expression(names, operands-k) + ")"
	}
	if d.roll(4) > 0 {
		return names[d.roll(len(names))]
	}
	return []string{"0", "1", "2", "10", "1000000"}[d.roll(5)]
}

// dim with or without formulas, right by chapter 10; names do not rise, so that their order is not that of places.
func (d *dice) dim(name string, size int, formulas bool) api.Dim {
	var names []string
	for i := range size {
		names = append(names, string(rune('a'+(i*7+3)%12)))
	}
	for {
		out := api.Dim{Name: name, Solve: d.roll(4)}
		for i := range size {
			m := api.Member{Name: names[i], Parent: d.roll(i+1) - 1, Sign: []int{1, 1, -1, 0}[d.roll(4)]}
			if m.Parent >= 0 && out.Members[m.Parent].Formula != "" {
				m.Parent = -1
			}
			if formulas && d.roll(3) == 0 {
				m.Formula = d.expression(names, 1+d.roll(5))
			}
			out.Members = append(out.Members, m)
		}
		if _, err := rules.Check(out); err == nil {
			return out
		}
	}
}

func (d *dice) outline(formulas bool) api.Outline {
	var o api.Outline
	dims := 1 + d.roll(4)
	most := []int{12, 8, 5, 4}[dims-1]
	for i := range dims {
		o.Dims = append(o.Dims, d.dim(string(rune('w'+i)), 1+d.roll(most), formulas))
	}
	return o
}

func (d *dice) entries(o api.Outline) []api.Entry {
	var out []api.Entry
	for _, p := range places(o) {
		if leaf, _ := place.Leaf(o, p); leaf && d.roll(3) > 0 {
			out = append(out, api.Entry{At: p, N: []int{0, 1, -1, 7, -30, 200, api.MaxInput, -api.MaxInput}[d.roll(8)]})
		}
	}
	return out
}

// Many cubes: all cells are what chapter 11 tells one by one, and the order is that of the other way.
func TestManyCubes(t *testing.T) {
	d := dice(12)
	kinds, moved := make([]int, 3), 0
	for range 1500 {
		o := d.outline(true)
		l := d.entries(o)
		var want []api.Cell
		for _, p := range places(o) {
			c, err := solve.Value(o, l, p)
			if err != nil {
				t.Fatal(err)
			}
			want = append(want, c)
			kinds[c.Kind]++
		}
		cellsOne(t, o, l, want)
		order := orderAnotherWay(o)
		orderOne(t, o, order)
		if !slices.IsSorted(order) {
			moved++
		}
		if t.Failed() {
			t.FailNow()
		}
	}
	if slices.Min(kinds) < 1000 || moved < 500 {
		t.Errorf("there were few: of kinds %v, of orders that do not rise %d", kinds, moved)
	}
}

// Without formulas all cells are those that chapter 7 folds, whatever the solves, and none is a Fault.
func TestWithoutFormulas(t *testing.T) {
	d := dice(7)
	for range 300 {
		o := d.outline(false)
		l := d.entries(o)
		var dims []int
		for i := range o.Dims {
			dims = append(dims, i)
		}
		want, err := fold.All(o, l, dims)
		if err != nil {
			t.Fatal(err)
		}
		cellsOne(t, o, l, want)
		orderOne(t, o, orderAnotherWay(o))
		if t.Failed() {
			t.FailNow()
		}
	}
}

// In one dim the order of places is that of members.
func TestOrderOfMembers(t *testing.T) {
	d := dice(3)
	for range 1000 {
		o := api.Outline{Dims: []api.Dim{d.dim("x", 1+d.roll(12), true)}}
		want, err := rules.Order(o.Dims[0])
		if err != nil {
			t.Fatal(err)
		}
		orderOne(t, o, want)
	}
}

// doubled is a dim in which each member but the last is the sum of all behind it: so there are twice as many ways down from it as from the next.
func doubled(name string, solve, members int) api.Dim {
	d := api.Dim{Name: name, Solve: solve}
	for i := range members {
		var behind []string
		for k := i + 1; k < members; k++ {
			behind = append(behind, string(rune('a'+k)))
		}
		d.Members = append(d.Members, api.Member{Name: string(rune('a' + i)), Parent: -1, Formula: strings.Join(behind, "+")})
	}
	return d
}

// ways down from a member of a doubled dim to its last one.
func ways(members, i int) int {
	return 1 << max(members-2-i, 0)
}

// As great a cube as may be, with as many ways down as may be: each cell is told once.
func TestGreatest(t *testing.T) {
	for _, sizes := range [][]int{{12, 12, 12}, {12, 12, 10, 2}, {2, 10, 12, 12}, {12, 10, 5, 5}, {7, 7, 7, 7}} {
		for turn := range 3 {
			var o api.Outline
			var last api.Place
			for i, n := range sizes {
				o.Dims = append(o.Dims, doubled(string(rune('p'+i)), i*turn%4, n))
				last = append(last, n-1)
			}
			var want []api.Cell
			for _, p := range places(o) {
				n := 1
				for i, k := range p {
					n *= ways(sizes[i], k)
				}
				want = append(want, cell.Of(n))
			}
			cellsOne(t, o, []api.Entry{{At: last, N: 1}}, want)
			cellsOne(t, o, nil, make([]api.Cell, len(want)))
			// Every member needs all behind it, so the last place is first.
			orderOne(t, o, orderAnotherWay(o))
			o.Dims[0].Members[sizes[0]-2].Formula += "/0"
			for n, p := range places(o) {
				if p[0] < sizes[0]-1 {
					want[n] = api.Cell{Kind: api.Fault}
				}
			}
			cellsOne(t, o, []api.Entry{{At: last, N: 1}}, want)
		}
	}
}

// All places of leafs of 3000 written, and all of them leafs.
func TestGreatestWritten(t *testing.T) {
	var o api.Outline
	for i, n := range []int{12, 10, 5, 5} {
		d := api.Dim{Name: string(rune('p' + i)), Solve: i}
		for k := range n {
			d.Members = append(d.Members, api.Member{Name: string(rune('a' + k)), Parent: -1, Sign: 1})
		}
		o.Dims = append(o.Dims, d)
	}
	var l []api.Entry
	var cells []api.Cell
	var order []int
	for n, p := range places(o) {
		l = append(l, api.Entry{At: p, N: n - 1500})
		cells = append(cells, cell.Of(n-1500))
		order = append(order, n)
	}
	cellsOne(t, o, l, cells)
	orderOne(t, o, order)
	for i := range o.Dims {
		for k := 1; k < len(o.Dims[i].Members); k++ {
			o.Dims[i].Members[k].Parent = 0
		}
	}
	l = slices.DeleteFunc(l, func(e api.Entry) bool { return slices.Contains(e.At, 0) })
	for i := range l {
		l[i].N = api.MaxInput
	}
	for n, p := range places(o) {
		count := api.MaxInput
		for i, k := range p {
			if k == 0 {
				count *= len(o.Dims[i].Members) - 1
			}
		}
		cells[n] = cell.Of(count)
	}
	cellsOne(t, o, l, cells)
	orderOne(t, o, orderAnotherWay(o))
}

// As many Faults as there may be places.
func TestAllFaults(t *testing.T) {
	o := cube("x 0" + strings.Repeat(" a:-1:1:1/0", 12))
	for i := range o.Dims[0].Members {
		o.Dims[0].Members[i].Name = string(rune('a' + i))
	}
	for i, n := range []int{10, 5, 5} {
		d := api.Dim{Name: string(rune('p' + i)), Solve: i}
		for k := range n {
			d.Members = append(d.Members, api.Member{Name: string(rune('a' + k)), Parent: k - 1, Sign: 1})
		}
		o.Dims = append(o.Dims, d)
	}
	want := make([]api.Cell, api.MaxCells)
	for n := range want {
		want[n].Kind = api.Fault
	}
	cellsOne(t, o, nil, want)
}

// wrongOutlines are what chapter 10 finds wrong.
func wrongOutlines() []api.Outline {
	great := strings.Repeat(" a:-1:1:", 13)
	out := []api.Outline{
		{}, {Dims: []api.Dim{}}, {Dims: make([]api.Dim, 1)}, {Dims: make([]api.Dim, 5)}, {Dims: make([]api.Dim, 100_000)},
		cube("x 0"), cube("X 0 a:-1:1:"), cube("x 10 a:-1:1:"), cube("x -1 a:-1:1:"), cube("x 0" + great), cube("x 0 a:-1:1:", "x 0 a:-1:1:"),
		cube("x 0 A:-1:1:"), cube("x 0 a:-1:1: a:-1:1:"), cube("x 0 a:0:1:"), cube("x 0 a:-2:1:"), cube("x 0 a:-1:2:"), cube("x 0 a:-1:1:1 b:0:1:"), cube("x 0 a:-1:1:" + strings.Repeat("1", 101)),
		cube("x 0 a:-1:1:a+"), cube("x 0 a:-1:1:b"), cube("x 0 a:-1:1:1000001"), cube("x 0 a:-1:1:1" + strings.Repeat("+1", 15)),
		cube("x 0 a:-1:1:a"), cube("x 0 a:-1:1:b b:-1:1:a"), cube("x 0 a:-1:1: b:0:1:a"), cube("x 0 a:-1:1: b:-1:1:c c:-1:1:b"),
		cube("x 0 a:-1:1: b:-1:1:", "y 0 a:-1:1: b:-1:1:x"), cube("x 0 a:-1:1: b:-1:1:", "y 0 a:-1:1: b:-1:1:b"), cube("x 0 a:-1:1:a", "y 0 a:-1:1:+"), cube("x 0 a:-1:1:a", "y 0 A:-1:1:"),
	}
	var o api.Outline
	for i := range 4 {
		o.Dims = append(o.Dims, doubled(string(rune('p'+i)), 0, 12))
	}
	return append(out, o)
}

// Chapter 10's error comes ahead of what is wrong with entries.
func TestWrongOutlines(t *testing.T) {
	told := make([]int, 9)
	for _, o := range wrongOutlines() {
		_, _, err := rules.All(o)
		e := plain.Told(err)
		told[e]++
		for _, l := range [][]api.Entry{nil, {}, {{}}, entries("0=1"), entries("0.0=1"), entries("1=9999999"), entries("-1=0"), entries("0=1 0=1")} {
			wrongOne(t, o, l, e)
		}
		if got, err := calc.Order(o); len(got) > 0 || plain.Told(err) != e {
			t.Errorf("Order(%v) = %v, %v, want %v", o, got, err, e)
		}
	}
	for _, e := range []api.Errno{api.ErrRange, api.ErrSyntax, api.ErrFull, api.ErrNone, api.ErrState, api.ErrClash, api.ErrCycle} {
		if told[e] == 0 {
			t.Errorf("%v was not told", e)
		}
	}
	if told[api.OK] > 0 {
		t.Error("an outline is right")
	}
}

// Chapter 5's Check comes next, of the entries one by one.
func TestWrongEntries(t *testing.T) {
	o := shop("1", "0")
	for text, e := range map[string]api.Errno{
		"1=1": api.ErrShape, "1.1.1=1": api.ErrShape, "4.1=1": api.ErrRange, "-1.1=1": api.ErrRange, "1.3=1": api.ErrRange, "0.1=1": api.ErrState, "1.0=1": api.ErrState, "3.1=1": api.ErrState, "3.0=1": api.ErrState,
		"1.1=1000001": api.ErrRange, "1.1=-1000001": api.ErrRange, "1.1=1 1.1=1": api.ErrClash, "1.2=1 1.1=1": api.ErrClash, "2.1=1 1.2=1": api.ErrClash, "1.1=1 1.2=2 2.1=9999999": api.ErrRange, "3.1=1 1=1": api.ErrState, "1.1=1 1.1=1 3.1=1": api.ErrClash,
	} {
		l := entries(text)
		if err := input.Check(o, l); plain.Told(err) != e {
			t.Fatalf("%q: chapter 5 tells %v, not %v", text, err, e)
		}
		wrongOne(t, o, l, e)
	}
	wrongOne(t, o, []api.Entry{{}}, api.ErrShape)
	wrongOne(t, o, make([]api.Entry, 100_000), api.ErrShape)
	wrongOne(t, o, []api.Entry{{At: api.Place{1, 1}, N: math.MinInt}}, api.ErrRange)
	wrongOne(t, o, []api.Entry{{At: api.Place{1, math.MaxInt}}}, api.ErrRange)
	// A member whose parts all count nothing is no leaf, either.
	wrongOne(t, cube("x 0 a:-1:1: b:0:0:"), entries("0=1"), api.ErrState)
}

// P2: what is handed in stays as it was, what lies behind its length is not read, and what is told hangs on it alone.
func TestNothingWrittenOrKept(t *testing.T) {
	o, l := shop("1", "0"), entries(shopEntries)
	o.Dims = append(make([]api.Dim, 0, 4), o.Dims...)
	o.Dims[:3][2] = api.Dim{Name: "X", Solve: 99}
	o.Dims[1].Members = append(make([]api.Member, 0, 5), o.Dims[1].Members...)
	o.Dims[1].Members[:4][3] = api.Member{Name: "X", Parent: 0, Sign: 1, Formula: "+"}
	l = append(make([]api.Entry, 0, 9), l...)
	l[:5][4] = api.Entry{At: api.Place{9}, N: -1}
	for range 2 {
		textOne(t, o, l, "130 50 80 300 200 100 170 150 20 43 25 80")
		orderOne(t, o, numbers("4 5 3 7 1 8 2 6 0 9 10 11"))
	}
	if want := shop("1", "0"); !reflect.DeepEqual(o, want) || !reflect.DeepEqual(l, entries(shopEntries)) {
		t.Errorf("what was handed in was written into: %v, %v", o, l)
	}
	if o.Dims[:3][2].Solve != 99 || o.Dims[1].Members[:4][3].Formula != "+" || l[:5][4].N != -1 {
		t.Error("what lies behind was written into")
	}
	// Each call is told what it is given then.
	l[0].N = 170
	textOne(t, o, l, "100 20 80 270 170 100 170 150 20 37 11 80")
	o.Dims[0].Members[3].Formula = "1/0"
	textOne(t, o, l, "100 20 80 270 170 100 170 150 20 # # #")
	orderOne(t, o, numbers("4 5 3 7 1 8 2 6 0 9 10 11"))
	o.Dims[0].Members[1].Sign = 0
	orderOne(t, o, numbers("4 5 3 7 1 8 2 6 0 9 10 11"))
	o.Dims[0].Members[2].Sign = 0
	orderOne(t, o, numbers("0 1 2 4 5 3 7 8 6 9 10 11"))
}

// P2: what comes out is the caller's, and no two lists of it share memory.
func TestFreshMemory(t *testing.T) {
	o, l := cube("x 0 a:-1:1:1/0 b:-1:1:a", "y 0 a:-1:1: b:-1:1: c:-1:1:"), []api.Entry(nil)
	all, _ := calc.All(o, l)
	order, _ := calc.Order(o)
	faults, _ := calc.Faults(o, l)
	if len(all) != 6 || len(order) != 6 || len(faults) != 6 {
		t.Fatalf("there are %d, %d, %d", len(all), len(order), len(faults))
	}
	for i := range 6 {
		all[i], order[i] = api.Cell{Kind: 9, N: 9}, 9
		_ = append(faults[i], 9, 9, 9)
		for k := i + 1; k < 6; k++ {
			if !slices.Equal(faults[k], places(o)[k]) {
				t.Fatalf("place %d is written into by one ahead: %v", k, faults[k])
			}
		}
		faults[i][0], faults[i][1] = 9, 9
	}
	textOne(t, o, l, "# # # # # #")
	orderOne(t, o, numbers("0 1 2 3 4 5"))
}
