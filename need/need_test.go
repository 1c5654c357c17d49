package need_test

import (
	"math"
	"reflect"
	"slices"
	"strconv"
	"strings"
	"testing"

	"tallyhall/api"
	"tallyhall/calc"
	"tallyhall/input"
	"tallyhall/need"
	"tallyhall/place"
	"tallyhall/plain"
	"tallyhall/roll"
	"tallyhall/rules"
)

// cube reads dims, of each its name, its solve, and members as name:parent:sign:formula, blanks between.
func cube(dims ...string) api.Outline {
	var o api.Outline
	for _, text := range dims {
		w := strings.Fields(text)
		d := api.Dim{Name: w[0], Solve: number(w[1])}
		for _, m := range w[2:] {
			p := strings.Split(m, ":")
			d.Members = append(d.Members, api.Member{Name: p[0], Parent: number(p[1]), Sign: number(p[2]), Formula: p[3]})
		}
		o.Dims = append(o.Dims, d)
	}
	return o
}

// placesOf a text, as 1.0 2.1, blanks between.
func placesOf(text string) []api.Place {
	var out []api.Place
	for _, w := range strings.Fields(text) {
		var p api.Place
		for _, m := range strings.Split(w, ".") {
			p = append(p, number(m))
		}
		out = append(out, p)
	}
	return out
}

// numbers, blanks between.
func numbers(text string) []int {
	var out []int
	for _, w := range strings.Fields(text) {
		out = append(out, number(w))
	}
	return out
}

func number(text string) int {
	n, err := strconv.Atoi(text)
	if err != nil {
		panic(err)
	}
	return n
}

// places of an outline in order, counted up from the last dim: another way than chapter 4's.
func places(o api.Outline) []api.Place {
	out := []api.Place{{}}
	for _, d := range o.Dims {
		var longer []api.Place
		for _, p := range out {
			for k := range d.Members {
				longer = append(longer, append(slices.Clone(p), k))
			}
		}
		out = longer
	}
	return out
}

// shop has accounts, of which the margin has a formula, and times.
func shop(accounts, times string) api.Outline {
	return cube("account "+accounts+" profit:-1:1: sales:0:1: costs:0:-1: margin:-1:1:profit*100/sales", "time "+times+" year:-1:1: spring:0:1: autumn:0:1:")
}

// asked of a place: what it needs, and its leafs.
func asked(t *testing.T, o api.Outline, p api.Place, needs, leafs []int) {
	t.Helper()
	if got, err := need.Of(o, p); err != nil || !slices.Equal(got, needs) {
		t.Errorf("Of(%v, %v) = %v, %v, want %v", o, p, got, err, needs)
	}
	if got, err := need.Leafs(o, p); err != nil || !slices.Equal(got, leafs) {
		t.Errorf("Leafs(%v, %v) = %v, %v, want %v", o, p, got, err, leafs)
	}
}

func dirtied(t *testing.T, o api.Outline, at []api.Place, want []int) {
	t.Helper()
	if got, err := need.Dirty(o, at); err != nil || !slices.Equal(got, want) {
		t.Errorf("Dirty(%v, %v) = %v, %v, want %v", o, at, got, err, want)
	}
}

// wrongPlace: Of and Leafs tell an error, and nothing else.
func wrongPlace(t *testing.T, o api.Outline, p api.Place, e api.Errno) {
	t.Helper()
	if got, err := need.Of(o, p); len(got) > 0 || plain.Told(err) != e {
		t.Errorf("Of(%v, %v) = %v, %v, want %v", o, p, got, err, e)
	}
	if got, err := need.Leafs(o, p); len(got) > 0 || plain.Told(err) != e {
		t.Errorf("Leafs(%v, %v) = %v, %v, want %v", o, p, got, err, e)
	}
}

// wrongPlaces: Dirty tells an error, and nothing else.
func wrongPlaces(t *testing.T, o api.Outline, at []api.Place, e api.Errno) {
	t.Helper()
	if got, err := need.Dirty(o, at); len(got) > 0 || plain.Told(err) != e {
		t.Errorf("Dirty(%v, %v) = %v, %v, want %v", o, at, got, err, e)
	}
}

// The solves tell by which dim a place is told, and so what it needs at once, though not what it needs in the end.
func TestOrdinary(t *testing.T) {
	books := []string{"3 6", "4 7", "5 8", "4 5", "", "", "7 8", "", "", "0 3", "1 4", "2 5"}
	times := []string{"1 2", "4 7", "5 8", "4 5", "", "", "7 8", "", "", "10 11", "1 4", "2 5"}
	leafs := []string{"4 5 7 8", "4 7", "5 8", "4 5", "4", "5", "7 8", "7", "8", "4 5 7 8", "4 7", "5 8"}
	for _, c := range []struct {
		o     api.Outline
		needs []string
	}{{shop("0", "0"), books}, {shop("1", "0"), books}, {shop("9", "9"), books}, {shop("0", "1"), times}, {shop("8", "9"), times}} {
		for n, p := range places(c.o) {
			asked(t, c.o, p, numbers(c.needs[n]), numbers(leafs[n]))
		}
		dirtied(t, c.o, placesOf("1.1"), numbers("0 1 3 4 9 10"))
		dirtied(t, c.o, placesOf("2.1"), numbers("0 1 6 7 9 10"))
		dirtied(t, c.o, placesOf("2.2"), numbers("0 2 6 8 9 11"))
		dirtied(t, c.o, placesOf("1.1 1.2"), numbers("0 1 2 3 4 5 9 10 11"))
		dirtied(t, c.o, placesOf("1.1 2.1"), numbers("0 1 3 4 6 7 9 10"))
		dirtied(t, c.o, placesOf("1.1 1.2 2.1 2.2"), numbers("0 1 2 3 4 5 6 7 8 9 10 11"))
	}
}

// One dim: what each member needs, its leafs, and who is dirty by it if it is one, worked out by hand.
func TestOneDim(t *testing.T) {
	for _, c := range []struct {
		dim          string
		needs, leafs []string
		dirty        []string // -: it is no leaf
	}{
		{"a:-1:1:", []string{""}, []string{"0"}, []string{"0"}},
		{"a:-1:0:", []string{""}, []string{"0"}, []string{"0"}},
		{"a:-1:1:7", []string{""}, []string{""}, []string{"-"}},
		{"a:-1:1: b:0:1:", []string{"1", ""}, []string{"1", "1"}, []string{"-", "0 1"}},
		{"a:-1:1: b:0:-1: c:0:1:", []string{"1 2", "", ""}, []string{"1 2", "1", "2"}, []string{"-", "0 1", "0 2"}},
		{"a:-1:1: b:0:1: c:1:1: d:2:1:", []string{"1", "2", "3", ""}, []string{"3", "3", "3", "3"}, []string{"-", "-", "-", "0 1 2 3"}},
		// What counts nothing is not needed, nor what is below it; what has only such parts is no leaf.
		{"a:-1:1: b:0:0:", []string{"", ""}, []string{"", "1"}, []string{"-", "1"}},
		{"a:-1:1: b:0:0: c:0:1:", []string{"2", "", ""}, []string{"2", "1", "2"}, []string{"-", "1", "0 2"}},
		{"a:-1:1: b:0:0: c:1:1:", []string{"", "2", ""}, []string{"", "2", "2"}, []string{"-", "-", "1 2"}},
		{"a:-1:1: b:0:1: c:1:0:", []string{"1", "", ""}, []string{"", "", "2"}, []string{"-", "-", "2"}},
		// By formulas: of one twice, of names that rise otherwise than places, of parts and of who has parts.
		{"a:-1:1:b*b+b b:-1:1:", []string{"1", ""}, []string{"1", "1"}, []string{"-", "0 1"}},
		{"z:-1:1:b-y y:-1:1: b:-1:1:", []string{"1 2", "", ""}, []string{"1 2", "1", "2"}, []string{"-", "0 1", "0 2"}},
		{"a:-1:1: b:-1:1:a*0", []string{"", "0"}, []string{"0", "0"}, []string{"0 1", "-"}},
		{"a:-1:1:b+1 b:-1:1:c+1 c:-1:1:d+1 d:-1:1:", []string{"1", "2", "3", ""}, []string{"3", "3", "3", "3"}, []string{"-", "-", "-", "0 1 2 3"}},
		{"a:-1:1:c b:-1:1: c:-1:1:b", []string{"2", "", "1"}, []string{"1", "1", "1"}, []string{"-", "0 1 2", "-"}},
		{"a:-1:1: b:0:1: c:0:0:a*100/b", []string{"1", "", "0 1"}, []string{"1", "1", "1"}, []string{"-", "0 1 2", "-"}},
		{"a:-1:1: b:0:1: c:0:-1:b*3/10 d:-1:1:a-c", []string{"1 2", "", "1", "0 2"}, []string{"1", "1", "1", "1"}, []string{"-", "0 1 2 3", "-", "-"}},
		{"a:-1:1: b:0:1:1/0 c:0:1:", []string{"1 2", "", ""}, []string{"2", "", "2"}, []string{"-", "-", "0 2"}},
		{"a:-1:1:b-b b:-1:1: c:-1:1:", []string{"1", "", ""}, []string{"1", "1", "2"}, []string{"-", "0 1", "2"}},
	} {
		for _, solve := range []string{"0", "9"} {
			o := cube("x " + solve + " " + c.dim)
			for k := range o.Dims[0].Members {
				asked(t, o, api.Place{k}, numbers(c.needs[k]), numbers(c.leafs[k]))
				if c.dirty[k] == "-" {
					wrongPlaces(t, o, []api.Place{{k}}, api.ErrState)
				} else {
					dirtied(t, o, []api.Place{{k}}, numbers(c.dirty[k]))
				}
			}
			dirtied(t, o, nil, nil)
		}
	}
}

// A place needs itself among its leafs, if it is one; nobody needs it at once.
func TestItself(t *testing.T) {
	o := cube("x 0 a:-1:1:", "y 0 a:-1:1:", "z 0 a:-1:1:", "w 0 a:-1:1:")
	asked(t, o, api.Place{0, 0, 0, 0}, nil, []int{0})
	dirtied(t, o, placesOf("0.0.0.0"), []int{0})
	o = cube("x 0 a:-1:1: b:-1:1: c:-1:1:", "y 0 a:-1:1: b:-1:1:")
	for n, p := range places(o) {
		asked(t, o, p, nil, []int{n})
		dirtied(t, o, []api.Place{p}, []int{n})
	}
	dirtied(t, o, placesOf("2.1 0.0 1.1"), []int{0, 3, 5})
}

// What is dirty comes once, and rising, however often, and in whichever order, the places are told.
func TestDirtyOfMany(t *testing.T) {
	o := shop("1", "0")
	for _, text := range []string{"1.1 2.2", "2.2 1.1", "1.1 1.1 2.2", "2.2 2.2 2.2 1.1 1.1 2.2"} {
		dirtied(t, o, placesOf(text), numbers("0 1 2 3 4 6 8 9 10 11"))
	}
	dirtied(t, o, nil, nil)
	dirtied(t, o, []api.Place{}, nil)
	var many []api.Place
	for range 50_000 {
		many = append(many, api.Place{1, 1}, api.Place{1, 2})
	}
	dirtied(t, o, many, numbers("0 1 2 3 4 5 9 10 11"))
}

// With more dims each place is told by one of them, and another one tells what it needs there.
func TestManyDims(t *testing.T) {
	o := cube("x 1 a:-1:1: b:-1:1: q:-1:1:a/b", "y 1 c:-1:1: d:-1:1: s:-1:1:c*d")
	asked(t, o, api.Place{2, 2}, numbers("2 5"), numbers("0 1 3 4"))
	asked(t, o, api.Place{2, 1}, numbers("1 4"), numbers("1 4"))
	dirtied(t, o, placesOf("0.1"), numbers("1 2 7 8"))
	o.Dims[1].Solve = 2
	asked(t, o, api.Place{2, 2}, numbers("6 7"), numbers("0 1 3 4"))
	dirtied(t, o, placesOf("0.1"), numbers("1 2 7 8"))
	// What a formula without refs tells hangs on nothing, though the sums beside it do, if they tell.
	o = cube("x 3 a:-1:1: b:0:1:", "y 2 a:-1:1:6*7 b:-1:1:")
	asked(t, o, api.Place{0, 0}, []int{2}, nil)
	dirtied(t, o, placesOf("1.1"), numbers("1 3"))
	o.Dims[1].Solve = 4
	asked(t, o, api.Place{0, 0}, nil, nil)
	// A member whose parts all count nothing tells nothing, if it is the one that tells.
	o = cube("x 1 a:-1:1: b:0:0:", "y 0 a:-1:1: b:0:1:")
	asked(t, o, api.Place{0, 0}, nil, nil)
	asked(t, o, api.Place{1, 0}, []int{3}, []int{3})
	dirtied(t, o, placesOf("1.1"), numbers("2 3"))
	o.Dims[1].Solve = 2
	asked(t, o, api.Place{0, 0}, []int{1}, nil)
	dirtied(t, o, placesOf("1.1"), numbers("2 3"))
	o = cube("x 0 t:-1:1: b:0:1:", "y 0 t:-1:1: b:0:1:", "z 0 t:-1:1: b:0:1:", "w 0 t:-1:1: b:0:1:")
	asked(t, o, api.Place{0, 0, 0, 0}, []int{8}, []int{15})
	dirtied(t, o, placesOf("1.1.1.1"), numbers("0 1 2 3 4 5 6 7 8 9 10 11 12 13 14 15"))
}

// isLeaf by the words of chapter 3.
func isLeaf(d api.Dim, i int) bool {
	return d.Members[i].Formula == "" && !slices.ContainsFunc(d.Members, func(m api.Member) bool { return m.Parent == i })
}

// teller of a place by the words of chapter 11, from the greatest solve down.
func teller(o api.Outline, p api.Place) int {
	for solve := api.MaxSolve; solve >= 0; solve-- {
		for i, d := range o.Dims {
			if d.Solve == solve && !isLeaf(d, p[i]) {
				return i
			}
		}
	}
	return -1
}

// tells whether the value at q is one of those by which that at p is told: all but one dim have the same member, and that one is named by a formula, or a part that counts.
func tells(o api.Outline, q, p api.Place) bool {
	dim := teller(o, p)
	if dim < 0 {
		return false
	}
	for i := range p {
		if i != dim && p[i] != q[i] {
			return false
		}
	}
	d := o.Dims[dim]
	part := d.Members[q[dim]]
	if text := d.Members[p[dim]].Formula; text != "" {
		words := strings.FieldsFunc(text, func(c rune) bool { return c < 'a' || c > 'z' })
		return slices.Contains(words, part.Name)
	}
	return part.Parent == p[dim] && part.Sign != 0
}

// webOf a cube: by the words, of each place what it needs at once, and what it needs in the end, itself too.
func webOf(o api.Outline) (near, far [][]bool) {
	all := places(o)
	for n, p := range all {
		near, far = append(near, make([]bool, len(all))), append(far, make([]bool, len(all)))
		for k, q := range all {
			near[n][k] = tells(o, q, p)
			far[n][k] = near[n][k] || n == k
		}
	}
	for by := range all {
		for n := range all {
			for k := range all {
				far[n][k] = far[n][k] || far[n][by] && far[by][k]
			}
		}
	}
	return near, far
}

func leafOf(o api.Outline, p api.Place) bool {
	for i, d := range o.Dims {
		if !isLeaf(d, p[i]) {
			return false
		}
	}
	return true
}

// those numbers below a bound that are so.
func those(bound int, so func(n int) bool) []int {
	var out []int
	for n := range bound {
		if so(n) {
			out = append(out, n)
		}
	}
	return out
}

// dice that always fall alike.
type dice uint64

func (d *dice) roll(n int) int {
	*d = *d*6364136223846793005 + 1442695040888963407
	return int(uint64(*d) >> 33 % uint64(n))
}

// expression of so many operands, of which some are names.
func (d *dice) expression(names []string, operands int) string {
	if operands > 1 {
		k := 1 + d.roll(operands-1)
		return "(" + d.expression(names, k) + ")" + "+-**//"[d.roll(6):][:1] + "(" + d.expression(names, operands-k) + ")"
	}
	if d.roll(4) > 0 {
		return names[d.roll(len(names))]
	}
	return []string{"0", "1", "2", "10", "1000000"}[d.roll(5)]
}

// dim with or without formulas, right by chapter 10; names do not rise, so that their order is not that of places.
func (d *dice) dim(name string, size int, formulas bool) api.Dim {
	var names []string
	for i := range size {
		names = append(names, string(rune('a'+(i*7+3)%12)))
	}
	for {
		out := api.Dim{Name: name, Solve: d.roll(4)}
		for i := range size {
			m := api.Member{Name: names[i], Parent: d.roll(i+1) - 1, Sign: []int{1, 1, -1, 0}[d.roll(4)]}
			if m.Parent >= 0 && out.Members[m.Parent].Formula != "" {
				m.Parent = -1
			}
			if formulas && d.roll(3) == 0 {
				m.Formula = d.expression(names, 1+d.roll(5))
			}
			out.Members = append(out.Members, m)
		}
		if _, err := rules.Check(out); err == nil {
			return out
		}
	}
}

func (d *dice) outline(formulas bool) api.Outline {
	var o api.Outline
	dims := 1 + d.roll(4)
	most := []int{12, 8, 5, 4}[dims-1]
	for i := range dims {
		o.Dims = append(o.Dims, d.dim(string(rune('w'+i)), 1+d.roll(most), formulas))
	}
	return o
}

// some of the places of leafs, in no order, and some of them twice.
func (d *dice) some(o api.Outline) []api.Place {
	leafs := slices.DeleteFunc(places(o), func(p api.Place) bool { return !leafOf(o, p) })
	var out []api.Place
	for range d.roll(5) {
		if len(leafs) > 0 {
			out = append(out, leafs[d.roll(len(leafs))])
		}
	}
	return out
}

// Many cubes: all of it by the words of the chapters, place by place.
func TestManyCubes(t *testing.T) {
	d := dice(13)
	far, none, mixed := 0, 0, 0
	for range 800 {
		o := d.outline(true)
		all := places(o)
		near, web := webOf(o)
		for n, p := range all {
			needs := those(len(all), func(k int) bool { return near[n][k] })
			leafs := those(len(all), func(k int) bool { return web[n][k] && leafOf(o, all[k]) })
			asked(t, o, p, needs, leafs)
			if len(leafs) > len(needs) {
				far++
			}
			if len(leafs) == 0 {
				none++
			}
			if !leafOf(o, p) {
				wrongPlaces(t, o, []api.Place{p}, api.ErrState)
				continue
			}
			dirtied(t, o, []api.Place{p}, those(len(all), func(k int) bool { return web[k][n] }))
		}
		at := d.some(o)
		dirty := those(len(all), func(k int) bool {
			return slices.ContainsFunc(at, func(p api.Place) bool { return web[k][numberOf(o, p)] })
		})
		dirtied(t, o, at, dirty)
		if len(at) > 1 && len(dirty) > len(at) && len(dirty) < len(all) {
			mixed++
		}
		if t.Failed() {
			t.FailNow()
		}
	}
	if far < 1000 || none < 1000 || mixed < 100 {
		t.Errorf("there were few: far %d, without leafs %d, mixed %d", far, none, mixed)
	}
}

func numberOf(o api.Outline, p api.Place) int {
	n := 0
	for i, d := range o.Dims {
		n = n*len(d.Members) + p[i]
	}
	return n
}

// What is written elsewhere changes nothing that is not dirty by it, whatever is written.
func TestNothingElseChanges(t *testing.T) {
	d := dice(5)
	changed, stayed := 0, 0
	for range 1500 {
		o := d.outline(true)
		at := d.some(o)
		var ahead []api.Entry
		for _, p := range places(o) {
			if leafOf(o, p) && d.roll(3) > 0 {
				ahead = append(ahead, api.Entry{At: p, N: d.roll(9) - 4})
			}
		}
		var edits []api.Edit
		for _, p := range at {
			edits = append(edits, api.Edit{At: p, N: d.roll(900)})
		}
		behind, _, err := input.All(o, ahead, edits)
		if err != nil {
			t.Fatal(err)
		}
		a, _ := calc.All(o, ahead)
		b, _ := calc.All(o, behind)
		dirty, err := need.Dirty(o, at)
		if err != nil {
			t.Fatal(err)
		}
		for n := range a {
			if a[n] == b[n] {
				stayed++
				continue
			}
			changed++
			if !slices.Contains(dirty, n) {
				t.Fatalf("%v: %v to %v at %d, which is not dirty by %v: %v", o, a[n], b[n], n, at, dirty)
			}
		}
	}
	if changed < 1000 || stayed < 1000 {
		t.Errorf("there were few: changed %d, stayed %d", changed, stayed)
	}
}

// Without formulas and where every part counts, the leafs are those of chapter 6.
func TestLeafsOfRolls(t *testing.T) {
	d := dice(6)
	for range 300 {
		o := d.outline(false)
		for i := range o.Dims {
			for k := range o.Dims[i].Members {
				o.Dims[i].Members[k].Sign = 1 - 2*d.roll(2)
			}
		}
		for _, p := range places(o) {
			l, err := roll.Leafs(o, p)
			if err != nil {
				t.Fatal(err)
			}
			var want []int
			for _, q := range l {
				want = append(want, numberOf(o, q))
			}
			if got, err := need.Leafs(o, p); err != nil || !slices.Equal(got, want) {
				t.Fatalf("Leafs(%v, %v) = %v, %v, want %v", o, p, got, err, want)
			}
		}
	}
}

// In one dim a place needs what its member needs.
func TestNeedsOfMembers(t *testing.T) {
	d := dice(3)
	for range 500 {
		o := api.Outline{Dims: []api.Dim{d.dim("x", 1+d.roll(12), true)}}
		for k := range o.Dims[0].Members {
			want, err := rules.Needs(o.Dims[0], k)
			if err != nil {
				t.Fatal(err)
			}
			if got, err := need.Of(o, api.Place{k}); err != nil || !slices.Equal(got, want) {
				t.Fatalf("Of(%v, %d) = %v, %v, want %v", o, k, got, err, want)
			}
		}
	}
}

// doubled is a dim in which each member but the last is the sum of all behind it: so there are twice as many ways down from it as from the next.
func doubled(name string, solve, members int) api.Dim {
	d := api.Dim{Name: name, Solve: solve}
	for i := range members {
		var behind []string
		for k := i + 1; k < members; k++ {
			behind = append(behind, string(rune('a'+k)))
		}
		d.Members = append(d.Members, api.Member{Name: string(rune('a' + i)), Parent: -1, Formula: strings.Join(behind, "+")})
	}
	return d
}

// As great a cube as may be, with as many ways down as may be: each place is gone on from once.
func TestGreatest(t *testing.T) {
	for _, sizes := range [][]int{{12, 12, 12}, {12, 12, 10, 2}, {2, 10, 12, 12}, {12, 10, 5, 5}, {7, 7, 7, 7}} {
		for turn := range 3 {
			var o api.Outline
			var last api.Place
			for i, n := range sizes {
				o.Dims = append(o.Dims, doubled(string(rune('p'+i)), i*turn%4, n))
				last = append(last, n-1)
			}
			all := places(o)
			bottom := len(all) - 1
			for _, n := range []int{0, 1, bottom / 2, bottom - 1, bottom} {
				needs := those(len(all), func(k int) bool { return tells(o, all[k], all[n]) })
				asked(t, o, all[n], needs, []int{bottom})
			}
			dirtied(t, o, []api.Place{last}, those(len(all), func(int) bool { return true }))
		}
	}
}

// All places of leafs of 3000 at once, and all of them leafs.
func TestGreatestWritten(t *testing.T) {
	var o api.Outline
	for i, n := range []int{12, 10, 5, 5} {
		d := api.Dim{Name: string(rune('p' + i)), Solve: i}
		for k := range n {
			d.Members = append(d.Members, api.Member{Name: string(rune('a' + k)), Parent: -1, Sign: 1})
		}
		o.Dims = append(o.Dims, d)
	}
	all := places(o)
	dirtied(t, o, all, those(len(all), func(int) bool { return true }))
	asked(t, o, all[2999], nil, []int{2999})
	for i := range o.Dims {
		for k := 1; k < len(o.Dims[i].Members); k++ {
			o.Dims[i].Members[k].Parent = 0
		}
	}
	at := slices.DeleteFunc(places(o), func(p api.Place) bool { return slices.Contains(p, 0) })
	dirtied(t, o, at, those(len(all), func(int) bool { return true }))
	var leafs []int
	for _, p := range at {
		leafs = append(leafs, numberOf(o, p))
	}
	asked(t, o, all[0], numbers("1 2 3 4"), leafs)
}

// wrongOutlines are what chapter 10 finds wrong.
func wrongOutlines() []api.Outline {
	great := strings.Repeat(" a:-1:1:", 13)
	out := []api.Outline{
		{}, {Dims: []api.Dim{}}, {Dims: make([]api.Dim, 1)}, {Dims: make([]api.Dim, 5)}, {Dims: make([]api.Dim, 100_000)},
		cube("x 0"), cube("X 0 a:-1:1:"), cube("x 10 a:-1:1:"), cube("x -1 a:-1:1:"), cube("x 0" + great), cube("x 0 a:-1:1:", "x 0 a:-1:1:"),
		cube("x 0 A:-1:1:"), cube("x 0 a:-1:1: a:-1:1:"), cube("x 0 a:0:1:"), cube("x 0 a:-2:1:"), cube("x 0 a:-1:2:"), cube("x 0 a:-1:1:1 b:0:1:"), cube("x 0 a:-1:1:" + strings.Repeat("1", 101)),
		cube("x 0 a:-1:1:a+"), cube("x 0 a:-1:1:b"), cube("x 0 a:-1:1:1000001"), cube("x 0 a:-1:1:1" + strings.Repeat("+1", 15)),
		cube("x 0 a:-1:1:a"), cube("x 0 a:-1:1:b b:-1:1:a"), cube("x 0 a:-1:1: b:0:1:a"), cube("x 0 a:-1:1: b:-1:1:c c:-1:1:b"),
		cube("x 0 a:-1:1: b:-1:1:", "y 0 a:-1:1: b:-1:1:x"), cube("x 0 a:-1:1: b:-1:1:", "y 0 a:-1:1: b:-1:1:b"), cube("x 0 a:-1:1:a", "y 0 a:-1:1:+"), cube("x 0 a:-1:1:a", "y 0 A:-1:1:"),
	}
	var o api.Outline
	for i := range 4 {
		o.Dims = append(o.Dims, doubled(string(rune('p'+i)), 0, 12))
	}
	return append(out, o)
}

// Chapter 10's error comes ahead of what is wrong with places.
func TestWrongOutlines(t *testing.T) {
	told := make([]int, 9)
	for _, o := range wrongOutlines() {
		_, _, err := rules.All(o)
		e := plain.Told(err)
		told[e]++
		for _, p := range []api.Place{nil, {}, {0}, {0, 0}, {1}, {-1}, {0, math.MaxInt}} {
			wrongPlace(t, o, p, e)
			wrongPlaces(t, o, []api.Place{p}, e)
			wrongPlaces(t, o, []api.Place{{0}, {0, 0}, p}, e)
		}
		wrongPlaces(t, o, nil, e)
	}
	for _, e := range []api.Errno{api.ErrRange, api.ErrSyntax, api.ErrFull, api.ErrNone, api.ErrState, api.ErrClash, api.ErrCycle} {
		if told[e] == 0 {
			t.Errorf("%v was not told", e)
		}
	}
	if told[api.OK] > 0 {
		t.Error("an outline is right")
	}
}

// Chapter 4's Check comes next.
func TestWrongPlaces(t *testing.T) {
	o := shop("1", "0")
	for _, c := range []struct {
		p api.Place
		e api.Errno
	}{
		{nil, api.ErrShape}, {api.Place{}, api.ErrShape}, {api.Place{1}, api.ErrShape}, {api.Place{1, 1, 1}, api.ErrShape}, {api.Place{-1}, api.ErrShape}, {make(api.Place, 100_000), api.ErrShape},
		{api.Place{-1, 1}, api.ErrRange}, {api.Place{4, 1}, api.ErrRange}, {api.Place{1, -1}, api.ErrRange}, {api.Place{1, 3}, api.ErrRange}, {api.Place{math.MinInt, 1}, api.ErrRange}, {api.Place{1, math.MaxInt}, api.ErrRange},
	} {
		if err := place.Check(o, c.p); plain.Told(err) != c.e {
			t.Fatalf("%v: chapter 4 tells %v, not %v", c.p, err, c.e)
		}
		wrongPlace(t, o, c.p, c.e)
		wrongPlaces(t, o, []api.Place{c.p}, c.e)
		wrongPlaces(t, o, []api.Place{{1, 1}, c.p}, c.e)
		wrongPlaces(t, o, []api.Place{c.p, {1, 1}}, c.e)
	}
}

// Of several places the first that chapter 4 finds wrong is told, and only then one that is no place of leafs.
func TestOrderOfErrors(t *testing.T) {
	o := shop("1", "0")
	for text, e := range map[string]api.Errno{
		"9.9 1": api.ErrRange, "1 9.9": api.ErrShape, "1.1 1 9.9": api.ErrShape, "1.1 9.9 1": api.ErrRange,
		"0.0": api.ErrState, "0.1": api.ErrState, "1.0": api.ErrState, "3.1": api.ErrState, "3.0": api.ErrState, "1.1 2.2 3.2": api.ErrState, "3.2 1.1 2.2": api.ErrState,
		"0.0 1": api.ErrShape, "1 0.0": api.ErrShape, "0.0 9.9": api.ErrRange, "9.9 0.0": api.ErrRange, "0.0 9.9 1": api.ErrRange, "0.0 1 9.9": api.ErrShape,
	} {
		wrongPlaces(t, o, placesOf(text), e)
	}
	// A member whose parts all count nothing is no leaf, either, though it needs none.
	wrongPlaces(t, cube("x 0 a:-1:1: b:0:0:"), placesOf("0"), api.ErrState)
	wrongPlaces(t, cube("x 0 a:-1:1:7"), placesOf("0"), api.ErrState)
}

// P2: what is handed in stays as it was, what lies behind its length is not read, and what is told hangs on it alone.
func TestNothingWrittenOrKept(t *testing.T) {
	o, at := shop("1", "0"), placesOf("2.2 1.1")
	o.Dims = append(make([]api.Dim, 0, 4), o.Dims...)
	o.Dims[:3][2] = api.Dim{Name: "X", Solve: 99}
	o.Dims[1].Members = append(make([]api.Member, 0, 5), o.Dims[1].Members...)
	o.Dims[1].Members[:4][3] = api.Member{Name: "X", Parent: 0, Sign: 1, Formula: "+"}
	at = append(make([]api.Place, 0, 4), at...)
	at[:3][2] = api.Place{9, 9, 9}
	p := append(make(api.Place, 0, 4), 3, 0)
	p[:3][2] = 9
	at[0] = append(make(api.Place, 0, 4), at[0]...)
	at[0][:3][2] = 9
	for range 2 {
		asked(t, o, p, numbers("0 3"), numbers("4 5 7 8"))
		dirtied(t, o, at, numbers("0 1 2 3 4 6 8 9 10 11"))
	}
	if want := shop("1", "0"); !reflect.DeepEqual(o, want) || !reflect.DeepEqual(at, placesOf("2.2 1.1")) || !slices.Equal(p, api.Place{3, 0}) {
		t.Errorf("what was handed in was written into: %v, %v, %v", o, at, p)
	}
	if o.Dims[:3][2].Solve != 99 || o.Dims[1].Members[:4][3].Formula != "+" || len(at[:3][2]) != 3 || at[0][:3][2] != 9 || p[:3][2] != 9 {
		t.Error("what lies behind was written into")
	}
	// Each call is told what it is given then.
	at[0][1] = 1
	dirtied(t, o, at, numbers("0 1 3 4 6 7 9 10"))
	p[0] = 0
	asked(t, o, p, numbers("3 6"), numbers("4 5 7 8"))
	o.Dims[0].Members[1].Sign = 0
	asked(t, o, p, numbers("6"), numbers("7 8"))
	dirtied(t, o, placesOf("1.1"), numbers("3 4 9 10"))
	o.Dims[0].Members[3].Formula = "1/0"
	dirtied(t, o, placesOf("1.1"), numbers("3 4"))
}

// P2: what comes out is the caller's.
func TestFreshMemory(t *testing.T) {
	o, at := shop("1", "0"), placesOf("1.1 2.2")
	for range 3 {
		needs, _ := need.Of(o, api.Place{3, 0})
		leafs, _ := need.Leafs(o, api.Place{3, 0})
		dirty, _ := need.Dirty(o, at)
		if !slices.Equal(needs, numbers("0 3")) || !slices.Equal(leafs, numbers("4 5 7 8")) || !slices.Equal(dirty, numbers("0 1 2 3 4 6 8 9 10 11")) {
			t.Fatalf("%v, %v, %v", needs, leafs, dirty)
		}
		for _, l := range [][]int{needs, leafs, dirty} {
			_ = append(l, -7)
			for i := range l {
				l[i] = -7
			}
		}
	}
}
