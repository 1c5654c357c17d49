package solve_test

import (
	"math"
	"math/big"
	"reflect"
	"slices"
	"strconv"
	"strings"
	"testing"

	"tallyhall/api"
	"tallyhall/cell"
	"tallyhall/fold"
	"tallyhall/formula"
	"tallyhall/input"
	"tallyhall/outline"
	"tallyhall/place"
	"tallyhall/plain"
	"tallyhall/roll"
	"tallyhall/rules"
	"tallyhall/solve"
)

// cube reads dims, of each its name, its solve, and members as name:parent:sign:formula, blanks between.
func cube(dims ...string) api.Outline {
	var o api.Outline
	for _, text := range dims {
		w := strings.Fields(text)
		d := api.Dim{Name: w[0], Solve: number(w[1])}
		for _, m := range w[2:] {
			p := strings.Split(m, ":")
			d.Members = append(d.Members, api.Member{Name: p[0], Parent: number(p[1]), Sign: number(p[2]), Formula: p[3]})
		}
		o.Dims = append(o.Dims, d)
	}
	return o
}

// entries reads places with numbers, as 1.0=7, blanks between.
func entries(text string) []api.Entry {
	var out []api.Entry
	for _, w := range strings.Fields(text) {
		at, n, _ := strings.Cut(w, "=")
		var p api.Place
		for _, m := range strings.Split(at, ".") {
			p = append(p, number(m))
		}
		out = append(out, api.Entry{At: p, N: number(n)})
	}
	return out
}

func number(text string) int {
	n, err := strconv.Atoi(text)
	if err != nil {
		panic(err)
	}
	return n
}

// places of an outline that is right, by number.
func places(o api.Outline) []api.Place {
	count, err := place.Cells(o)
	if err != nil {
		panic(err)
	}
	var out []api.Place
	for n := range count {
		p, _ := place.Of(o, n)
		out = append(out, p)
	}
	return out
}

func valueOne(t *testing.T, o api.Outline, l []api.Entry, p api.Place, want api.Cell, e api.Errno) {
	t.Helper()
	if got, err := solve.Value(o, l, p); got != want || plain.Told(err) != e {
		t.Errorf("Value(%v, %v, %v) = %v, %v, want %v, %v", o, l, p, got, err, want, e)
	}
}

func byOne(t *testing.T, o api.Outline, p api.Place, want int, e api.Errno) {
	t.Helper()
	if got, err := solve.By(o, p); got != want || plain.Told(err) != e {
		t.Errorf("By(%v, %v) = %d, %v, want %d, %v", o, p, got, err, want, e)
	}
}

// valuesOne asks every place, against cells as texts, by number.
func valuesOne(t *testing.T, o api.Outline, l []api.Entry, want string) {
	t.Helper()
	words := strings.Fields(want)
	all := places(o)
	if len(words) != len(all) {
		t.Fatalf("%d cells of %d places", len(words), len(all))
	}
	for n, p := range all {
		c, err := cell.Parse(words[n])
		if err != nil {
			t.Fatal(err)
		}
		valueOne(t, o, l, p, c, api.OK)
	}
}

// bysOne asks every place, by number.
func bysOne(t *testing.T, o api.Outline, want ...int) {
	t.Helper()
	for n, p := range places(o) {
		byOne(t, o, p, want[n], api.OK)
	}
}

// shop has accounts, of which the margin has a formula, and times.
func shop(accounts, times string) api.Outline {
	return cube("account "+accounts+" profit:-1:1: sales:0:1: costs:0:-1: margin:-1:1:profit*100/sales", "time "+times+" year:-1:1: spring:0:1: autumn:0:1:")
}

const shopEntries = "1.1=200 1.2=100 2.1=150 2.2=20"

// At the margin of the year it is told whether that of the sums is meant, or the sum of those.
func TestOrdinary(t *testing.T) {
	l := entries(shopEntries)
	for _, c := range [][]string{{"0", "0"}, {"1", "0"}, {"1", "1"}, {"9", "9"}, {"9", "8"}, {"3", "0"}} {
		valuesOne(t, shop(c[0], c[1]), l, "130 50 80 300 200 100 170 150 20 43 25 80")
		bysOne(t, shop(c[0], c[1]), 0, 0, 0, 1, -1, -1, 1, -1, -1, 0, 0, 0)
	}
	for _, c := range [][]string{{"0", "1"}, {"8", "9"}, {"0", "9"}} {
		valuesOne(t, shop(c[0], c[1]), l, "130 50 80 300 200 100 170 150 20 105 25 80")
		bysOne(t, shop(c[0], c[1]), 1, 0, 0, 1, -1, -1, 1, -1, -1, 1, 0, 0)
	}
	valuesOne(t, shop("1", "0"), nil, "- - - - - - - - - - - -")
	valuesOne(t, shop("1", "0"), entries("2.2=7"), "-7 - -7 - - - 7 - 7 - - -")
	valuesOne(t, shop("1", "0"), entries("1.1=0 2.2=7"), "-7 0 -7 0 0 - 7 - 7 # # -")
}

// What is written is told at places of leafs, whichever dims and solves there are.
func TestLeafs(t *testing.T) {
	for _, o := range []api.Outline{cube("x 0 a:-1:1:"), cube("x 9 a:-1:0:"), cube("x 9 a:-1:-1:", "y 3 a:-1:1:"), cube("x 0 a:-1:1:", "y 1 a:-1:1:", "z 2 a:-1:1:", "w 3 a:-1:1:")} {
		p := make(api.Place, len(o.Dims))
		byOne(t, o, p, -1, api.OK)
		valueOne(t, o, nil, p, api.Cell{}, api.OK)
		valueOne(t, o, []api.Entry{}, p, api.Cell{}, api.OK)
		for _, n := range []int{0, 1, -1, 7, api.MaxInput, -api.MaxInput} {
			valueOne(t, o, []api.Entry{{At: p, N: n}}, p, api.Cell{Kind: api.Number, N: n}, api.OK)
		}
	}
	valuesOne(t, cube("x 0 a:-1:1: b:-1:-1:", "y 0 a:-1:0: b:-1:1: c:-1:1:"), entries("0.0=4 0.2=5 1.1=-6"), "4 - 5 - -6 -")
}

// The greatest solve of those dims whose member is no leaf, of equal ones the first; a greater one of a leaf counts nothing.
func TestBy(t *testing.T) {
	for x := range 10 {
		for y := range 10 {
			o := cube("x "+strconv.Itoa(x)+" a:-1:1: b:0:1:", "y "+strconv.Itoa(y)+" a:-1:1: b:0:1:")
			first := 0
			if y > x {
				first = 1
			}
			bysOne(t, o, first, 0, 1, -1)
			// By a formula as by parts.
			o.Dims[0].Members[0].Formula, o.Dims[0].Members[1].Parent = "7", -1
			bysOne(t, o, first, 0, 1, -1)
			o.Dims[1].Members[0].Formula, o.Dims[1].Members[1].Parent = "b", -1
			bysOne(t, o, first, 0, 1, -1)
		}
	}
	for _, c := range []struct {
		solves string
		want   int
	}{
		{"0000", 0}, {"0001", 3}, {"0010", 2}, {"0100", 1}, {"1000", 0}, {"0011", 2}, {"0101", 1}, {"0111", 1}, {"1111", 0}, {"9999", 0}, {"1231", 2}, {"3210", 0}, {"0123", 3}, {"1323", 1}, {"2133", 2},
	} {
		var o api.Outline
		for i, s := range strings.Split(c.solves, "") {
			o.Dims = append(o.Dims, cube(string(rune('p'+i))+" "+s+" a:-1:1: b:0:1:").Dims...)
		}
		byOne(t, o, api.Place{0, 0, 0, 0}, c.want, api.OK)
		byOne(t, o, api.Place{1, 1, 1, 1}, -1, api.OK)
		for i := range 4 {
			p := api.Place{1, 1, 1, 1}
			p[i] = 0
			byOne(t, o, p, i, api.OK)
		}
	}
	// Parts that count nothing are parts: the member is no leaf.
	bysOne(t, cube("x 2 a:-1:1: b:0:0:", "y 1 a:-1:1: b:0:1:"), 0, 0, 1, -1)
}

// Signs are those of the parts, not that of the member.
func TestParts(t *testing.T) {
	for _, c := range []struct{ dim, written, want string }{
		{"a:-1:1: b:0:1:", "1=4", "4 4"}, {"a:-1:1: b:0:-1:", "1=4", "-4 4"}, {"a:-1:-1: b:0:-1:", "1=-4", "4 -4"}, {"a:-1:0: b:0:1:", "1=4", "4 4"},
		{"a:-1:1: b:0:1:", "", "- -"}, {"a:-1:1: b:0:-1:", "", "- -"}, {"a:-1:1: b:0:1:", "1=0", "0 0"}, {"a:-1:1: b:0:-1:", "1=0", "0 0"},
		{"a:-1:1: b:0:1: c:0:1: d:0:-1:", "1=7 2=5 3=2", "10 7 5 2"}, {"a:-1:1: b:0:-1: c:0:1:", "1=7 2=5", "-2 7 5"}, {"a:-1:1: b:0:1: c:0:-1:", "1=7 2=7", "0 7 7"},
		{"a:-1:1: b:0:1: c:0:-1:", "2=5", "-5 - 5"}, {"a:-1:1: b:0:1: c:0:-1:", "1=5", "5 5 -"},
		{"a:-1:1: b:0:0:", "1=4", "- 4"}, {"a:-1:1: b:0:0: c:0:0:", "1=4 2=5", "- 4 5"}, {"a:-1:1: b:0:1: c:0:0:", "1=4 2=5", "4 4 5"}, {"a:-1:1: b:0:0: c:0:-1:", "1=4 2=5", "-5 4 5"}, {"a:-1:1: b:0:1: c:0:0:", "2=5", "- - 5"},
		{"a:-1:1: b:0:-1: c:1:-1: d:1:1:", "2=4 3=1", "3 -3 4 1"}, {"a:-1:1: b:0:0: c:1:1:", "2=4", "- 4 4"}, {"a:-1:1: b:0:1: c:1:0:", "2=4", "- - 4"},
		{"a:-1:1: b:-1:1: c:0:1: d:1:1: e:0:1:", "2=1 3=2 4=4", "5 2 1 2 4"},
		{"a:-1:1: b:0:1:1/0", "", "# #"}, {"a:-1:1: b:0:-1:1/0 c:0:1:", "2=5", "# # 5"}, {"a:-1:1: b:0:0:1/0", "", "- #"}, {"a:-1:1: b:0:0:1/0 c:0:1:", "2=5", "5 # 5"},
	} {
		valuesOne(t, cube("x 5 "+c.dim), entries(c.written), c.want)
	}
}

// Parts come one after another, in order: what goes beyond MaxValue on the way is a Fault, and stays one.
func TestPartsInOrder(t *testing.T) {
	const most, last = "1000000*1000000", "1000000000000"
	for _, c := range []struct{ dim, want string }{
		{"a:-1:1: b:0:1:" + most + " c:0:1:1 d:0:-1:1", "# " + last + " 1 1"},
		{"a:-1:1: b:0:1:" + most + " c:0:-1:1 d:0:1:1", last + " " + last + " 1 1"},
		{"a:-1:1: b:0:1:1 c:0:1:" + most + " d:0:-1:1", "# 1 " + last + " 1"},
		{"a:-1:1: b:0:-1:1 c:0:1:" + most + " d:0:1:1", last + " 1 " + last + " 1"},
		{"a:-1:1: b:0:-1:" + most + " c:0:-1:1 d:0:1:1", "# " + last + " 1 1"},
		{"a:-1:1: b:0:-1:" + most + " c:0:1:1 d:0:-1:1", "-" + last + " " + last + " 1 1"},
		{"a:-1:1: b:0:1:" + most + " c:0:0:1 d:0:1:1-2", "999999999999 " + last + " 1 -1"},
	} {
		valuesOne(t, cube("x 0 "+c.dim), nil, c.want)
	}
}

// A ref is the value at the place with that member: of a leaf, of one with parts, of one with a formula, ahead or behind.
func TestFormulas(t *testing.T) {
	for _, c := range []struct{ dim, written, want string }{
		{"a:-1:1:7", "", "7"}, {"a:-1:0:0", "", "0"}, {"a:-1:1:1/0", "", "#"}, {"a:-1:-1:2-9*3", "", "-25"},
		{"a:-1:1:b b:-1:1:", "1=4", "4 4"}, {"a:-1:1:b b:-1:1:", "", "- -"}, {"a:-1:1: b:-1:1:a", "0=4", "4 4"},
		{"a:-1:1:b+1 b:-1:1:", "", "1 -"}, {"a:-1:1:b-1 b:-1:1:", "", "-1 -"}, {"a:-1:1:b*0 b:-1:1:", "", "- -"}, {"a:-1:1:1/b b:-1:1:", "", "- -"}, {"a:-1:1:1/b b:-1:1:", "1=0", "# 0"},
		{"a:-1:1:b-c b:-1:1: c:-1:1:", "1=9 2=4", "5 9 4"}, {"a:-1:1:c-b b:-1:1: c:-1:1:", "1=9 2=4", "-5 9 4"}, {"z:-1:1:y-b y:-1:1: b:-1:1:", "1=9 2=4", "5 9 4"}, {"z:-1:1:b-y y:-1:1: b:-1:1:", "1=9 2=4", "-5 9 4"},
		{"a:-1:1:b*b-b/(b+b) b:-1:1:", "1=-7", "49 -7"},
		{"a:-1:1:b*2 b:-1:1: c:1:1: d:1:-1:", "2=9 3=4", "10 5 9 4"}, {"a:-1:1: b:0:1: c:0:-1:b*3/10 d:-1:1:a-c", "1=200", "140 200 60 80"},
		{"a:-1:1:b+1 b:-1:1:c+1 c:-1:1:d+1 d:-1:1:", "3=1", "4 3 2 1"}, {"a:-1:1: b:-1:1:a+1 c:-1:1:b+1 d:-1:1:c+1", "0=1", "1 2 3 4"},
		{"a:-1:1: b:0:1: c:0:0:a*100/b", "1=50", "50 50 100"}, {"a:-1:1: b:0:0: c:1:1:a+5", "", "- 5 5"},
		{"a:-1:1:b/0+c b:-1:1: c:-1:1:", "1=4 2=5", "# 4 5"}, {"a:-1:1:b*1000000 b:-1:1:c*1000000 c:-1:1:", "2=1000000", "# 1000000000000 1000000"},
	} {
		valuesOne(t, cube("x 0 "+c.dim), entries(c.written), c.want)
	}
}

// A formula of one dim is reckoned with what is told at other places by other dims, each by its own solve.
func TestTwoFormulas(t *testing.T) {
	o := cube("x 1 a:-1:1: b:-1:1: q:-1:1:a/b", "y 1 c:-1:1: d:-1:1: s:-1:1:c*d")
	l := entries("0.0=7 0.1=9 1.0=2 1.1=4")
	valuesOne(t, o, l, "7 9 63 2 4 8 3 2 7")
	o.Dims[1].Solve = 2
	valuesOne(t, o, l, "7 9 63 2 4 8 3 2 6")
	// Here y is told first, then z, then x. So b.b is 5 at b, 25 at c, 30 at a, and b.c 2, 4, 6; c.b is 5/2 at b, and 2*2 at c, and c.c 1 and 1; a.b is 5-2 at b, and 3*3 at c, and a.c 1 and 1; and all with a in the middle is what is at b there less what is at c.
	o = cube("x 1 a:-1:1: b:0:1: c:0:-1:b/2", "y 3 a:-1:1:b-c b:-1:1: c:-1:1:", "z 2 a:-1:1: b:0:1: c:0:1:b*b")
	valuesOne(t, o, entries("1.1.1=5 1.2.1=2"), `
		10 2 8  12 3 9  2 1 1
		24 3 21  30 5 25  6 2 4
		4 1 3  6 2 4  2 1 1`)
}

// As long and as deep as may be, in each of two dims.
func TestDeepest(t *testing.T) {
	deep, chain := api.Dim{Name: "deep", Solve: 4}, api.Dim{Name: "chain", Solve: 5}
	for i := range 12 {
		name := string(rune('a' + i))
		deep.Members = append(deep.Members, api.Member{Name: name, Parent: i - 1, Sign: -1})
		chain.Members = append(chain.Members, api.Member{Name: name, Parent: -1, Formula: string(rune('b'+i)) + "+1"})
	}
	chain.Members[11].Formula = ""
	l := entries("11.11=100")
	for _, o := range []api.Outline{{Dims: []api.Dim{deep, chain}}, {Dims: []api.Dim{chain, deep}}} {
		for _, p := range places(o) {
			d, c := p[0], p[1]
			if o.Dims[0].Name == "chain" {
				d, c = p[1], p[0]
			}
			n := 100
			if d%2 == 0 {
				n = -100
			}
			valueOne(t, o, l, p, cell.Of(n+11-c), api.OK)
		}
		// Told first by its parts it is all that was added on the way that has its sign turned.
		o.Dims[0].Solve, o.Dims[1].Solve = 9-o.Dims[0].Solve, 9-o.Dims[1].Solve
		for _, p := range places(o) {
			d, c := p[0], p[1]
			if o.Dims[0].Name == "chain" {
				d, c = p[1], p[0]
			}
			n := 100 + 11 - c
			if d%2 == 0 {
				n = -n
			}
			valueOne(t, o, l, p, cell.Of(n), api.OK)
		}
	}
}

// doubled is a dim in which each member but the last is the sum of all behind it: so there are twice as many ways down from it as from the next.
func doubled(name string, solve, members int) api.Dim {
	d := api.Dim{Name: name, Solve: solve}
	for i := range members {
		var behind []string
		for k := i + 1; k < members; k++ {
			behind = append(behind, string(rune('a'+k)))
		}
		d.Members = append(d.Members, api.Member{Name: string(rune('a' + i)), Parent: -1, Formula: strings.Join(behind, "+")})
	}
	return d
}

// A call ends, however many ways there are to a place.
func TestManyWays(t *testing.T) {
	for _, c := range []struct {
		sizes []int
		want  int
	}{
		{[]int{12}, 1 << 10}, {[]int{12, 12}, 1 << 20}, {[]int{12, 12, 12}, 1 << 30}, {[]int{12, 12, 10, 2}, 1 << 28}, {[]int{7, 7, 7, 7}, 1 << 20}, {[]int{2, 10, 12, 12}, 1 << 28},
	} {
		for turn := range 3 {
			var o api.Outline
			var last api.Place
			for i, n := range c.sizes {
				o.Dims = append(o.Dims, doubled(string(rune('p'+i)), i*turn%4, n))
				last = append(last, n-1)
			}
			first := make(api.Place, len(last))
			valueOne(t, o, []api.Entry{{At: last, N: 1}}, first, cell.Of(c.want), api.OK)
			valueOne(t, o, nil, first, api.Cell{}, api.OK)
			o.Dims[0].Members[c.sizes[0]-2].Formula += "/0"
			valueOne(t, o, []api.Entry{{At: last, N: 1}}, first, api.Cell{Kind: api.Fault}, api.OK)
		}
	}
}

// All places of leafs written, in as great a cube as may be.
func TestGreatest(t *testing.T) {
	var o api.Outline
	for i, n := range []int{12, 10, 5, 5} {
		d := api.Dim{Name: string(rune('p' + i)), Solve: i}
		for k := range n {
			d.Members = append(d.Members, api.Member{Name: string(rune('a' + k)), Parent: min(k-1, 0), Sign: 1})
		}
		o.Dims = append(o.Dims, d)
	}
	var l []api.Entry
	for _, p := range places(o) {
		if !slices.Contains(p, 0) {
			l = append(l, api.Entry{At: p, N: api.MaxInput})
		}
	}
	valueOne(t, o, l, api.Place{0, 0, 0, 0}, cell.Of(11*9*4*4*api.MaxInput), api.OK)
	valueOne(t, o, l, api.Place{0, 3, 0, 1}, cell.Of(11*4*api.MaxInput), api.OK)
	valueOne(t, o, l, api.Place{11, 9, 4, 4}, cell.Of(api.MaxInput), api.OK)
	byOne(t, o, api.Place{0, 0, 0, 0}, 3, api.OK)
}

// dice that always fall alike.
type dice uint64

func (d *dice) roll(n int) int {
	*d = *d*6364136223846793005 + 1442695040888963407
	return int(uint64(*d) >> 33 % uint64(n))
}

// expression of so many operands, of which some are names.
func (d *dice) expression(names []string, operands int) string {
	if operands > 1 {
		k := 1 + d.roll(operands-1)
		return "(" + d.expression(names, k) + ")" + "+-**//"[d.roll(6):][:1] + "(" + d.expression(names, operands-k) + ")"
	}
	if len(names) > 0 && d.roll(4) > 0 {
		return names[d.roll(len(names))]
	}
	return []string{"0", "1", "2", "10", "1000000"}[d.roll(5)]
}

// dim with or without formulas, right by chapter 10; names do not rise, so that their order is not that of places.
func (d *dice) dim(name string, size int, formulas bool) api.Dim {
	var names []string
	for i := range size {
		names = append(names, string(rune('a'+(i*7+3)%12)))
	}
	for {
		out := api.Dim{Name: name, Solve: d.roll(4)}
		for i := range size {
			m := api.Member{Name: names[i], Parent: d.roll(i+1) - 1, Sign: []int{1, 1, -1, 0}[d.roll(4)]}
			if m.Parent >= 0 && out.Members[m.Parent].Formula != "" {
				m.Parent = -1
			}
			if formulas && d.roll(3) == 0 {
				m.Formula = d.expression(names, 1+d.roll(5))
			}
			out.Members = append(out.Members, m)
		}
		if _, err := rules.Check(out); err == nil {
			return out
		}
	}
}

func (d *dice) outline(formulas bool) api.Outline {
	var o api.Outline
	dims := 1 + d.roll(4)
	most := []int{12, 6, 4, 3}[dims-1]
	for i := range dims {
		o.Dims = append(o.Dims, d.dim(string(rune('w'+i)), 1+d.roll(most), formulas))
	}
	return o
}

func (d *dice) entries(o api.Outline) []api.Entry {
	var out []api.Entry
	for _, p := range places(o) {
		if leaf, _ := place.Leaf(o, p); leaf && d.roll(3) > 0 {
			out = append(out, api.Entry{At: p, N: []int{0, 1, -1, 7, -30, 200, api.MaxInput, -api.MaxInput}[d.roll(8)]})
		}
	}
	return out
}

// amount is a cell of the other way of telling: a fault, or a number of any size; nil: nothing.
type amount struct {
	fault bool
	n     *big.Int
}

func (a *amount) cell() api.Cell {
	switch {
	case a == nil:
		return api.Cell{}
	case a.fault:
		return api.Cell{Kind: api.Fault}
	}
	return api.Cell{Kind: api.Number, N: int(a.n.Int64())}
}

func amountOf(n *big.Int) *amount {
	return &amount{fault: n.CmpAbs(big.NewInt(1_000_000_000_000)) > 0, n: n}
}

// reckoned: two amounts by a sign.
func reckoned(a *amount, sign int, b *amount) *amount {
	if a != nil && a.fault || b != nil && b.fault {
		return &amount{fault: true}
	}
	both, none := a != nil && b != nil, a == nil && b == nil
	if none || !both && (sign == api.Times || sign == api.Over) {
		return nil
	}
	x, y, z := new(big.Int), new(big.Int), new(big.Int)
	if a != nil {
		x = a.n
	}
	if b != nil {
		y = b.n
	}
	switch sign {
	case api.Plus:
		z.Add(x, y)
	case api.Minus:
		z.Sub(x, y)
	case api.Times:
		z.Mul(x, y)
	default:
		if y.Sign() == 0 {
			return &amount{fault: true}
		}
		z.Quo(x, y)
	}
	return amountOf(z)
}

// sheet is the other way of telling: over and over through all places, of which one is told when all that it needs are.
type sheet struct {
	o       api.Outline
	written map[string]int
	told    map[string]*amount
}

// key of a place, or of that with another member of a dim.
func key(p api.Place, dim, member int) string {
	var s strings.Builder
	for i, m := range p {
		if i == dim {
			m = member
		}
		s.WriteString(strconv.Itoa(m) + " ")
	}
	return s.String()
}

func isLeaf(d api.Dim, i int) bool {
	for _, m := range d.Members {
		if m.Parent == i {
			return false
		}
	}
	return d.Members[i].Formula == ""
}

// teller of a place: of the dims with no leaf there, those with a lesser solve are left behind.
func teller(o api.Outline, p api.Place) int {
	for solve := 9; solve >= 0; solve-- {
		for i, d := range o.Dims {
			if d.Solve == solve && !isLeaf(d, p[i]) {
				return i
			}
		}
	}
	return -1
}

// one place, if all that it needs are told.
func (s sheet) one(p api.Place) (*amount, bool) {
	dim := teller(s.o, p)
	if dim < 0 {
		n, is := s.written[key(p, -1, 0)]
		if !is {
			return nil, true
		}
		return amountOf(big.NewInt(int64(n))), true
	}
	d := s.o.Dims[dim]
	if text := d.Members[p[dim]].Formula; text != "" {
		l, _, _ := formula.Parse(text)
		return s.node(p, dim, l, len(l)-1)
	}
	var sum *amount
	for k, m := range d.Members {
		if m.Parent != p[dim] || m.Sign == 0 {
			continue
		}
		part, is := s.told[key(p, dim, k)]
		if !is {
			return nil, false
		}
		sign := api.Plus
		if m.Sign == -1 {
			sign = api.Minus
		}
		sum = reckoned(sum, sign, part)
	}
	return sum, true
}

func (s sheet) node(p api.Place, dim int, l []api.Node, i int) (*amount, bool) {
	switch n := l[i]; n.Op {
	case api.Num:
		return amountOf(big.NewInt(int64(n.N))), true
	case api.Ref:
		k, _ := outline.Find(s.o.Dims[dim], n.Name)
		a, is := s.told[key(p, dim, k)]
		return a, is
	default:
		a, is := s.node(p, dim, l, n.Left)
		b, too := s.node(p, dim, l, n.Right)
		if !is || !too {
			return nil, false
		}
		return reckoned(a, n.Op, b), true
	}
}

// all places, in as many rounds as that takes.
func (s sheet) all() []api.Cell {
	list := places(s.o)
	for len(s.told) < len(list) {
		was := len(s.told)
		for _, p := range list {
			if _, is := s.told[key(p, -1, 0)]; is {
				continue
			}
			if a, is := s.one(p); is {
				s.told[key(p, -1, 0)] = a
			}
		}
		if len(s.told) == was {
			panic("none could be told")
		}
	}
	var out []api.Cell
	for _, p := range list {
		out = append(out, s.told[key(p, -1, 0)].cell())
	}
	return out
}

// Many cubes with formulas, at every place, against the other way of telling.
func TestManyCubes(t *testing.T) {
	d := dice(11)
	kinds, tellers := make([]int, 3), make([]int, 5)
	for range 4000 {
		o := d.outline(true)
		l := d.entries(o)
		s := sheet{o: o, written: map[string]int{}, told: map[string]*amount{}}
		for _, e := range l {
			s.written[key(e.At, -1, 0)] = e.N
		}
		want := s.all()
		for n, p := range places(o) {
			valueOne(t, o, l, p, want[n], api.OK)
			byOne(t, o, p, teller(o, p), api.OK)
			kinds[want[n].Kind]++
			tellers[1+teller(o, p)]++
		}
		if t.Failed() {
			t.FailNow()
		}
	}
	for _, n := range append(kinds, tellers...) {
		if n < 1000 {
			t.Errorf("there were few: of kinds %v, of tellers %v", kinds, tellers)
		}
	}
}

// Without formulas all parts come to the same, whichever dim is first: as chapter 6 rolls and chapter 7 folds them, and whatever the solves.
func TestWhicheverDimIsFirst(t *testing.T) {
	d := dice(5)
	for range 300 {
		o := d.outline(false)
		l := d.entries(o)
		var order []int
		for i := range o.Dims {
			order = append(order, i)
		}
		folded, err := fold.All(o, l, order)
		if err != nil {
			t.Fatal(err)
		}
		for range 3 {
			for n, p := range places(o) {
				valueOne(t, o, l, p, folded[n], api.OK)
				rolled, err := roll.Value(o, l, p)
				if err != nil || rolled != folded[n] {
					t.Fatalf("rolled %v, %v, folded %v", rolled, err, folded[n])
				}
			}
			for i := range o.Dims {
				o.Dims[i].Solve = d.roll(10)
			}
		}
		if t.Failed() {
			t.FailNow()
		}
	}
}

// wrongOutlines are what chapter 10 finds wrong.
func wrongOutlines() []api.Outline {
	great := strings.Repeat(" a:-1:1:", 13)
	out := []api.Outline{
		{}, {Dims: []api.Dim{}}, {Dims: make([]api.Dim, 1)}, {Dims: make([]api.Dim, 5)}, {Dims: make([]api.Dim, 100_000)},
		cube("x 0"), cube("X 0 a:-1:1:"), cube("x 10 a:-1:1:"), cube("x -1 a:-1:1:"), cube("x 0" + great), cube("x 0 a:-1:1:", "x 0 a:-1:1:"),
		cube("x 0 A:-1:1:"), cube("x 0 a:-1:1: a:-1:1:"), cube("x 0 a:0:1:"), cube("x 0 a:-2:1:"), cube("x 0 a:-1:2:"), cube("x 0 a:-1:1:1 b:0:1:"), cube("x 0 a:-1:1:" + strings.Repeat("1", 101)),
		cube("x 0 a:-1:1:a+"), cube("x 0 a:-1:1:b"), cube("x 0 a:-1:1:1000001"), cube("x 0 a:-1:1:1" + strings.Repeat("+1", 15)),
		cube("x 0 a:-1:1:a"), cube("x 0 a:-1:1:b b:-1:1:a"), cube("x 0 a:-1:1: b:0:1:a"), cube("x 0 a:-1:1: b:-1:1:c c:-1:1:b"),
		cube("x 0 a:-1:1: b:-1:1:", "y 0 a:-1:1: b:-1:1:x"), cube("x 0 a:-1:1: b:-1:1:", "y 0 a:-1:1: b:-1:1:b"),
	}
	var o api.Outline
	for i := range 4 {
		o.Dims = append(o.Dims, doubled(string(rune('p'+i)), 0, 12))
	}
	return append(out, o)
}

// Chapter 10's error comes ahead of what is wrong with entries, and with the place.
func TestWrongOutlines(t *testing.T) {
	told := make([]int, 9)
	for _, o := range wrongOutlines() {
		_, _, err := rules.All(o)
		e := plain.Told(err)
		told[e]++
		for _, p := range []api.Place{nil, {}, {0}, {0, 0}, {1, 1}, {-1}, {99}, {math.MinInt, math.MaxInt}, make(api.Place, 5)} {
			byOne(t, o, p, 0, e)
			for _, l := range [][]api.Entry{nil, {}, {{}}, entries("0=1"), entries("0.0=1"), entries("1=9999999"), entries("-1=0"), entries("0=1 0=1")} {
				valueOne(t, o, l, p, api.Cell{}, e)
			}
		}
	}
	for _, e := range []api.Errno{api.ErrRange, api.ErrSyntax, api.ErrFull, api.ErrNone, api.ErrState, api.ErrClash, api.ErrCycle} {
		if told[e] == 0 {
			t.Errorf("%v was not told", e)
		}
	}
	if told[api.OK] > 0 {
		t.Error("an outline is right")
	}
}

// Chapter 5's Check comes next, of the entries one by one, ahead of what is wrong with the place; By asks none of them.
func TestWrongEntries(t *testing.T) {
	o := shop("1", "0")
	for text, e := range map[string]api.Errno{
		"1=1": api.ErrShape, "1.1.1=1": api.ErrShape, "4.1=1": api.ErrRange, "-1.1=1": api.ErrRange, "1.3=1": api.ErrRange, "0.1=1": api.ErrState, "1.0=1": api.ErrState, "3.1=1": api.ErrState, "3.0=1": api.ErrState,
		"1.1=1000001": api.ErrRange, "1.1=-1000001": api.ErrRange, "1.1=1 1.1=1": api.ErrClash, "1.2=1 1.1=1": api.ErrClash, "2.1=1 1.2=1": api.ErrClash, "1.1=1 1.2=2 2.1=9999999": api.ErrRange, "3.1=1 1=1": api.ErrState, "1.1=1 1.1=1 3.1=1": api.ErrClash,
	} {
		l := entries(text)
		if err := input.Check(o, l); plain.Told(err) != e {
			t.Fatalf("%q: chapter 5 tells %v, not %v", text, err, e)
		}
		for _, p := range append(places(o), nil, api.Place{0}, api.Place{0, 0, 0}, api.Place{4, 0}, api.Place{0, -1}) {
			valueOne(t, o, l, p, api.Cell{}, e)
		}
	}
	valueOne(t, o, []api.Entry{{}}, api.Place{1, 1}, api.Cell{}, api.ErrShape)
	valueOne(t, o, make([]api.Entry, 100_000), api.Place{1, 1}, api.Cell{}, api.ErrShape)
}

// Chapter 4's Check comes last.
func TestWrongPlaces(t *testing.T) {
	o := shop("1", "0")
	for _, c := range []struct {
		p api.Place
		e api.Errno
	}{
		{nil, api.ErrShape}, {api.Place{}, api.ErrShape}, {api.Place{0}, api.ErrShape}, {api.Place{-1}, api.ErrShape}, {api.Place{0, 0, 0}, api.ErrShape}, {api.Place{9, 9, 9}, api.ErrShape}, {make(api.Place, 100_000), api.ErrShape},
		{api.Place{4, 0}, api.ErrRange}, {api.Place{0, 3}, api.ErrRange}, {api.Place{-1, 0}, api.ErrRange}, {api.Place{0, -1}, api.ErrRange}, {api.Place{math.MaxInt, 1}, api.ErrRange}, {api.Place{1, math.MinInt}, api.ErrRange}, {api.Place{0, 4}, api.ErrRange},
	} {
		byOne(t, o, c.p, 0, c.e)
		valueOne(t, o, nil, c.p, api.Cell{}, c.e)
		valueOne(t, o, entries(shopEntries), c.p, api.Cell{}, c.e)
	}
}

// P2: what is handed in stays as it was, what lies behind its length is not read, and what is told hangs on it alone.
func TestNothingWrittenOrKept(t *testing.T) {
	o, l, p := shop("1", "0"), entries(shopEntries), api.Place{3, 0}
	o.Dims = append(make([]api.Dim, 0, 4), o.Dims...)
	o.Dims[:3][2] = api.Dim{Name: "X", Solve: 99}
	o.Dims[1].Members = append(make([]api.Member, 0, 5), o.Dims[1].Members...)
	o.Dims[1].Members[:4][3] = api.Member{Name: "X", Parent: 0, Sign: 1, Formula: "+"}
	l = append(make([]api.Entry, 0, 9), l...)
	l[:5][4] = api.Entry{At: api.Place{9}, N: -1}
	p = append(make(api.Place, 0, 5), p...)
	p[:3][2] = -7
	for range 2 {
		valueOne(t, o, l, p, cell.Of(43), api.OK)
		byOne(t, o, p, 0, api.OK)
		valuesOne(t, o, l, "130 50 80 300 200 100 170 150 20 43 25 80")
	}
	if want := shop("1", "0"); !reflect.DeepEqual(o, want) || !reflect.DeepEqual(l, entries(shopEntries)) || !slices.Equal(p, api.Place{3, 0}) {
		t.Errorf("what was handed in was written into: %v, %v, %v", o, l, p)
	}
	if o.Dims[:3][2].Solve != 99 || o.Dims[1].Members[:4][3].Formula != "+" || l[:5][4].N != -1 || p[:3][2] != -7 {
		t.Error("what lies behind was written into")
	}
	// Each call is told what it is given then.
	l[0].N = 170
	valueOne(t, o, l, p, cell.Of(37), api.OK)
	o.Dims[0].Members[3].Formula = "profit"
	valueOne(t, o, l, p, cell.Of(100), api.OK)
	p[1] = 2
	valueOne(t, o, l, p, cell.Of(80), api.OK)
}
