package roll_test

import (
	"fmt"
	"math"
	"reflect"
	"slices"
	"strings"
	"testing"

	"tallyhall/api"
	"tallyhall/input"
	"tallyhall/outline"
	"tallyhall/place"
	"tallyhall/plain"
	"tallyhall/roll"
)

// shop is a cube of accounts and of times. Leafs are of accounts: sales (1), wages (3), rent (4, which comes off), memo (6, below a note that counts nothing); of times: spring (1), summer (2, which counts nothing), winter (3, which comes off), day (4, beside the year).
func shop() api.Outline {
	return api.Outline{Dims: []api.Dim{
		{Name: "account", Solve: 3, Members: []api.Member{
			{Name: "profit", Parent: -1, Sign: -1},
			{Name: "sales", Parent: 0, Sign: 1},
			{Name: "costs", Parent: 0, Sign: -1},
			{Name: "wages", Parent: 2, Sign: 1},
			{Name: "rent", Parent: 2, Sign: -1},
			{Name: "note", Parent: 0, Sign: 0},
			{Name: "memo", Parent: 5, Sign: 1},
			{Name: "share", Parent: 0, Sign: 1, Formula: "sales/costs"},
		}},
		{Name: "time", Members: []api.Member{
			{Name: "year", Parent: -1, Sign: 0},
			{Name: "spring", Parent: 0, Sign: 1},
			{Name: "summer", Parent: 0, Sign: 0},
			{Name: "winter", Parent: 0, Sign: -1},
			{Name: "day", Parent: -1, Sign: -1},
		}},
	}}
}

// sized is an outline of dims with so many members each, of which the first has all the others as parts.
func sized(counts ...int) api.Outline {
	var o api.Outline
	for i, n := range counts {
		d := api.Dim{Name: string(rune('p' + i))}
		for k := range n {
			d.Members = append(d.Members, api.Member{Name: string(rune('a' + k)), Parent: min(k-1, 0), Sign: 1})
		}
		o.Dims = append(o.Dims, d)
	}
	return o
}

func at(n int, members ...int) api.Entry { return api.Entry{At: members, N: n} }
func number(n int) api.Cell              { return api.Cell{Kind: api.Number, N: n} }

// same, where an empty list and nil are the same.
func same(a, b []api.Place) bool {
	return slices.EqualFunc(a, b, func(x, y api.Place) bool { return slices.Equal(x, y) })
}

func valueOne(t *testing.T, o api.Outline, l []api.Entry, p api.Place, want api.Cell, e api.Errno) {
	t.Helper()
	if got, err := roll.Value(o, l, p); got != want || plain.Told(err) != e {
		t.Errorf("Value(%v, %v, %v) = %v, %v, want %v, %v", o, l, p, got, err, want, e)
	}
}

func leafsOne(t *testing.T, o api.Outline, p api.Place, want []api.Place, e api.Errno) {
	t.Helper()
	if got, err := roll.Leafs(o, p); !same(got, want) || plain.Told(err) != e {
		t.Errorf("Leafs(%v, %v) = %v, %v, want %v, %v", o, p, got, err, want, e)
	}
}

func weightOne(t *testing.T, o api.Outline, p, leaf api.Place, want int, e api.Errno) {
	t.Helper()
	if got, err := roll.Weight(o, p, leaf); got != want || plain.Told(err) != e {
		t.Errorf("Weight(%v, %v, %v) = %v, %v, want %v, %v", o, p, leaf, got, err, want, e)
	}
}

func TestValue(t *testing.T) {
	l := []api.Entry{at(100, 1, 1), at(7, 1, 2), at(30, 1, 3), at(5, 1, 4), at(20, 3, 1), at(8, 4, 1), at(2, 4, 3), at(9, 6, 1)}
	for _, c := range []struct {
		p    api.Place
		want api.Cell
	}{
		{api.Place{1, 1}, number(100)}, {api.Place{1, 0}, number(70)}, {api.Place{1, 4}, number(5)}, {api.Place{1, 2}, number(7)},
		{api.Place{2, 1}, number(12)}, {api.Place{2, 0}, number(14)}, {api.Place{2, 3}, number(-2)}, {api.Place{4, 0}, number(6)},
		{api.Place{0, 1}, number(88)}, {api.Place{0, 0}, number(56)}, {api.Place{0, 3}, number(32)}, {api.Place{0, 2}, number(7)},
		{api.Place{5, 0}, number(9)}, {api.Place{5, 1}, number(9)}, {api.Place{6, 1}, number(9)},
		{api.Place{3, 3}, api.Cell{}}, {api.Place{2, 4}, api.Cell{}}, {api.Place{6, 3}, api.Cell{}}, {api.Place{7, 0}, api.Cell{}}, {api.Place{7, 1}, api.Cell{}},
	} {
		valueOne(t, shop(), l, c.p, c.want, api.OK)
	}
}

// A sum of 0 is a Number, and so is one of what is written as 0; what counts nothing leaves nothing, however great it is.
func TestNothingAndZero(t *testing.T) {
	for _, l := range [][]api.Entry{nil, {}} {
		for i := range 8 {
			for k := range 5 {
				valueOne(t, shop(), l, api.Place{i, k}, api.Cell{}, api.OK)
			}
		}
	}
	for _, c := range []struct {
		l    []api.Entry
		p    api.Place
		want api.Cell
	}{
		{[]api.Entry{at(0, 1, 1)}, api.Place{1, 1}, number(0)},
		{[]api.Entry{at(0, 1, 1)}, api.Place{0, 0}, number(0)},
		{[]api.Entry{at(0, 1, 3)}, api.Place{0, 0}, number(0)},
		{[]api.Entry{at(4, 1, 1), at(4, 1, 3)}, api.Place{1, 0}, number(0)},
		{[]api.Entry{at(4, 3, 1), at(4, 4, 1)}, api.Place{0, 1}, number(0)},
		{[]api.Entry{at(-4, 1, 1)}, api.Place{0, 0}, number(-4)},
		{[]api.Entry{at(4, 1, 2)}, api.Place{1, 2}, number(4)},
		{[]api.Entry{at(4, 1, 2)}, api.Place{1, 0}, api.Cell{}},
		{[]api.Entry{at(4, 1, 2)}, api.Place{0, 0}, api.Cell{}},
		{[]api.Entry{at(0, 1, 2)}, api.Place{1, 0}, api.Cell{}},
		{[]api.Entry{at(4, 6, 1)}, api.Place{5, 0}, number(4)},
		{[]api.Entry{at(4, 6, 1)}, api.Place{0, 1}, api.Cell{}},
		{[]api.Entry{at(4, 6, 2)}, api.Place{5, 0}, api.Cell{}},
		{[]api.Entry{at(4, 6, 2)}, api.Place{0, 2}, api.Cell{}},
		{[]api.Entry{at(4, 1, 1), at(1_000_000, 1, 2), at(1_000_000, 6, 1)}, api.Place{0, 0}, number(4)},
		{[]api.Entry{at(0, 1, 1), at(1_000_000, 1, 2)}, api.Place{0, 0}, number(0)},
	} {
		valueOne(t, shop(), c.l, c.p, c.want, api.OK)
	}
}

func TestLeafs(t *testing.T) {
	for _, c := range []struct {
		p    api.Place
		want []api.Place
	}{
		{api.Place{1, 1}, []api.Place{{1, 1}}},
		{api.Place{1, 0}, []api.Place{{1, 1}, {1, 2}, {1, 3}}},
		{api.Place{2, 4}, []api.Place{{3, 4}, {4, 4}}},
		{api.Place{2, 0}, []api.Place{{3, 1}, {3, 2}, {3, 3}, {4, 1}, {4, 2}, {4, 3}}},
		{api.Place{0, 2}, []api.Place{{1, 2}, {3, 2}, {4, 2}, {6, 2}}},
		{api.Place{5, 0}, []api.Place{{6, 1}, {6, 2}, {6, 3}}},
		{api.Place{7, 0}, nil}, {api.Place{7, 1}, nil}, {api.Place{7, 4}, nil},
	} {
		leafsOne(t, shop(), c.p, c.want, api.OK)
	}
	leafsOne(t, sized(1), api.Place{0}, []api.Place{{0}}, api.OK)
	leafsOne(t, sized(3, 1, 2), api.Place{0, 0, 0}, []api.Place{{1, 0, 1}, {2, 0, 1}}, api.OK)
	leafsOne(t, sized(2, 3, 2, 3), api.Place{0, 0, 1, 0}, []api.Place{{1, 1, 1, 1}, {1, 1, 1, 2}, {1, 2, 1, 1}, {1, 2, 1, 2}}, api.OK)
}

func TestWeight(t *testing.T) {
	for _, c := range []struct {
		p, leaf api.Place
		want    int
	}{
		{api.Place{1, 1}, api.Place{1, 1}, 1}, {api.Place{1, 4}, api.Place{1, 4}, 1}, {api.Place{6, 2}, api.Place{6, 2}, 1},
		{api.Place{1, 0}, api.Place{1, 1}, 1}, {api.Place{1, 0}, api.Place{1, 3}, -1}, {api.Place{1, 0}, api.Place{1, 2}, 0},
		{api.Place{0, 1}, api.Place{3, 1}, -1}, {api.Place{0, 1}, api.Place{4, 1}, 1}, {api.Place{2, 1}, api.Place{4, 1}, -1},
		{api.Place{0, 0}, api.Place{3, 3}, 1}, {api.Place{0, 0}, api.Place{4, 3}, -1}, {api.Place{2, 0}, api.Place{4, 3}, 1},
		// What counts nothing in one dim counts nothing at all, and is a part all the same.
		{api.Place{0, 0}, api.Place{6, 1}, 0}, {api.Place{0, 0}, api.Place{6, 2}, 0}, {api.Place{0, 4}, api.Place{6, 4}, 0}, {api.Place{5, 0}, api.Place{6, 3}, -1},
	} {
		weightOne(t, shop(), c.p, c.leaf, c.want, api.OK)
	}
}

// What is no part, in whichever dim, or is no leaf, has no weight, not that of nothing either.
func TestNoneOfLeafs(t *testing.T) {
	for _, c := range []struct{ p, leaf api.Place }{
		{api.Place{1, 1}, api.Place{1, 2}}, {api.Place{1, 1}, api.Place{3, 1}}, {api.Place{1, 0}, api.Place{1, 4}}, {api.Place{2, 0}, api.Place{1, 1}},
		{api.Place{0, 4}, api.Place{1, 1}}, {api.Place{1, 1}, api.Place{0, 0}}, {api.Place{0, 0}, api.Place{0, 0}}, {api.Place{0, 0}, api.Place{0, 1}},
		{api.Place{0, 0}, api.Place{1, 0}}, {api.Place{0, 0}, api.Place{2, 1}}, {api.Place{5, 0}, api.Place{5, 1}}, {api.Place{0, 2}, api.Place{6, 1}},
		{api.Place{7, 1}, api.Place{7, 1}}, {api.Place{0, 1}, api.Place{7, 1}}, {api.Place{7, 1}, api.Place{1, 1}}, {api.Place{0, 0}, api.Place{7, 4}},
	} {
		weightOne(t, shop(), c.p, c.leaf, 0, api.ErrShape)
	}
}

// A Member with a Formula, whatever it says, has no leafs, and what is beside it is told without it.
func TestFormulasDoNotCount(t *testing.T) {
	for _, f := range []string{"7", "b", "no formula at all", "a", "\x00", " ", strings.Repeat("1", 100)} {
		o := sized(4, 2)
		o.Dims[0].Members[2].Formula = f
		l := []api.Entry{at(10, 1, 1), at(5, 3, 1)}
		valueOne(t, o, l, api.Place{0, 0}, number(15), api.OK)
		valueOne(t, o, l, api.Place{2, 0}, api.Cell{}, api.OK)
		valueOne(t, o, l, api.Place{2, 1}, api.Cell{}, api.OK)
		leafsOne(t, o, api.Place{0, 0}, []api.Place{{1, 1}, {3, 1}}, api.OK)
		leafsOne(t, o, api.Place{2, 0}, nil, api.OK)
		weightOne(t, o, api.Place{0, 0}, api.Place{2, 1}, 0, api.ErrShape)
		weightOne(t, o, api.Place{2, 1}, api.Place{2, 1}, 0, api.ErrShape)
		valueOne(t, o, []api.Entry{at(1, 2, 1)}, api.Place{0, 0}, api.Cell{}, api.ErrState)
		o.Dims[0].Members[1].Formula, o.Dims[0].Members[3].Formula = f, f
		valueOne(t, o, nil, api.Place{0, 0}, api.Cell{}, api.OK)
		leafsOne(t, o, api.Place{0, 0}, nil, api.OK)
		alone := sized(1)
		alone.Dims[0].Members[0].Formula = f
		valueOne(t, alone, nil, api.Place{0}, api.Cell{}, api.OK)
		leafsOne(t, alone, api.Place{0}, nil, api.OK)
		weightOne(t, alone, api.Place{0}, api.Place{0}, 0, api.ErrShape)
	}
}

// wrongPlaces of the shop, with what is wrong with each.
func wrongPlaces() map[api.Errno][]api.Place {
	return map[api.Errno][]api.Place{
		api.ErrShape: {nil, {}, {1}, {99}, {1, 1, 1}, {-1, -1, -1}, make(api.Place, 1000)},
		api.ErrRange: {{-1, 1}, {1, -1}, {8, 1}, {1, 5}, {7, 5}, {math.MinInt, 0}, {0, math.MaxInt}},
	}
}

func TestWrongPlaces(t *testing.T) {
	o, l := shop(), []api.Entry{at(1, 1, 1)}
	for e, places := range wrongPlaces() {
		for _, p := range places {
			valueOne(t, o, l, p, api.Cell{}, e)
			valueOne(t, o, nil, p, api.Cell{}, e)
			leafsOne(t, o, p, nil, e)
			for _, right := range []api.Place{{1, 1}, {0, 0}, {7, 1}} {
				weightOne(t, o, p, right, 0, e)
				weightOne(t, o, right, p, 0, e)
			}
			for _, more := range wrongPlaces() {
				for _, leaf := range more {
					weightOne(t, o, p, leaf, 0, e)
				}
			}
		}
	}
}

// The entries come ahead of the place, and each as chapter 5 tells it.
func TestEntriesFirst(t *testing.T) {
	o := shop()
	for _, l := range [][]api.Entry{
		{at(1, 1)}, {at(1)}, {at(1, 1, 1, 1)}, {at(1, 1, 9)}, {at(1, -1, 1)}, {at(1, 0, 1)}, {at(1, 1, 0)}, {at(1, 7, 1)},
		{at(1_000_001, 1, 1)}, {at(math.MinInt, 1, 1)}, {at(1, 1, 1), at(1, 1, 1)}, {at(1, 3, 1), at(1, 1, 1)},
		{at(1, 1, 1), at(1, 0, 1), at(1, 9, 9)}, {at(1, 1, 2), at(1, 1, 1), at(1, 1)},
	} {
		e := plain.Told(input.Check(o, l))
		if e == api.OK {
			t.Fatalf("%v is right", l)
		}
		for _, p := range []api.Place{{1, 1}, {0, 0}, {7, 1}, {6, 4}} {
			valueOne(t, o, l, p, api.Cell{}, e)
		}
		for _, places := range wrongPlaces() {
			for _, p := range places {
				valueOne(t, o, l, p, api.Cell{}, e)
			}
		}
	}
}

// The outline comes first of all, as chapter 2 tells it, whatever else is wrong.
func TestOutlineFirst(t *testing.T) {
	with := func(change func(o *api.Outline)) api.Outline {
		o := shop()
		change(&o)
		return o
	}
	for _, o := range []api.Outline{
		{}, {Dims: []api.Dim{}}, {Dims: make([]api.Dim, 1)}, {Dims: make([]api.Dim, 5)},
		sized(0), sized(3, 0), sized(13), sized(3, 13), sized(1, 1, 1, 1, 1), sized(12, 12, 12, 2),
		with(func(o *api.Outline) { o.Dims[1].Name = "account" }),
		with(func(o *api.Outline) { o.Dims[1].Solve = 10 }),
		with(func(o *api.Outline) { o.Dims[1].Members[2].Name = "spring" }),
		with(func(o *api.Outline) { o.Dims[0].Members[1].Parent = 1 }),
		with(func(o *api.Outline) { o.Dims[0].Members[0].Parent = 1 }),
		with(func(o *api.Outline) { o.Dims[1].Members[1].Sign = 2 }),
		with(func(o *api.Outline) { o.Dims[0].Members[0].Formula = "7" }),
		with(func(o *api.Outline) { o.Dims[1].Members[4].Formula = strings.Repeat("a", 101) }),
	} {
		_, _, err := outline.All(o)
		e := plain.Told(err)
		if e == api.OK {
			t.Fatalf("%v is right", o)
		}
		for _, p := range []api.Place{nil, {0}, {1, 1}, {0, 0}, {9, 9}, {-1, 1}, {1, 1, 1, 1, 1}} {
			for _, l := range [][]api.Entry{nil, {at(1, 1, 1)}, {at(1, 0)}, {at(math.MaxInt, 1, 1)}, {{}}} {
				valueOne(t, o, l, p, api.Cell{}, e)
			}
			leafsOne(t, o, p, nil, e)
			for _, leaf := range []api.Place{nil, {1, 1}, {0, 0}, {-1, 1}} {
				weightOne(t, o, p, leaf, 0, e)
			}
		}
	}
}

// isLeaf, and below, ask the outline itself, from the bottom up.
func isLeaf(d api.Dim, k int) bool {
	return d.Members[k].Formula == "" && !slices.ContainsFunc(d.Members, func(m api.Member) bool { return m.Parent == k })
}

// below tells the product of the signs from a member up to another one, and whether that is reached.
func below(d api.Dim, k, top int) (int, bool) {
	if k == top {
		return 1, true
	}
	if k < 0 {
		return 0, false
	}
	n, is := below(d, d.Members[k].Parent, top)
	return n * d.Members[k].Sign, is
}

// expectWeight is that of a leaf in a place, and whether it is one of its leafs.
func expectWeight(o api.Outline, p, leaf api.Place) (int, bool) {
	product := 1
	for i, d := range o.Dims {
		n, is := below(d, leaf[i], p[i])
		if !is || !isLeaf(d, leaf[i]) {
			return 0, false
		}
		product *= n
	}
	return product, true
}

// expectValue goes from the place down, part by part, taking the dims in an order: whichever comes first, all parts come to the same.
func expectValue(o api.Outline, written map[string]int, p api.Place, order []int) api.Cell {
	for _, i := range order {
		d := o.Dims[i]
		if isLeaf(d, p[i]) {
			continue
		}
		sum := api.Cell{}
		for k, m := range d.Members {
			if m.Parent != p[i] || m.Sign == 0 || d.Members[p[i]].Formula != "" {
				continue
			}
			part := slices.Clone(p)
			part[i] = k
			if c := expectValue(o, written, part, order); c.Kind == api.Number {
				sum = number(sum.N + m.Sign*c.N)
			}
		}
		return sum
	}
	if n, is := written[fmt.Sprint(p)]; is {
		return number(n)
	}
	return api.Cell{}
}

// turner gives numbers one after another, the same ones each time.
func turner(seed uint32) func(below int) int {
	return func(below int) int {
		seed = seed*1664525 + 1013904223
		return int(seed>>16) % below
	}
}

// anyOutline has dims of few members, with whatever parents, signs and formulas may be.
func anyOutline(next func(below int) int) api.Outline {
	var o api.Outline
	for i := range 1 + next(4) {
		d := api.Dim{Name: string(rune('p' + i)), Solve: next(10)}
		for k := range 1 + next(4) {
			m := api.Member{Name: string(rune('a' + k)), Parent: next(k+1) - 1, Sign: []int{1, -1, 0, 1, -1, 1}[next(6)]}
			if m.Parent >= 0 && d.Members[m.Parent].Formula != "" {
				m.Parent = -1
			}
			if next(8) == 0 {
				m.Formula = "1+1"
			}
			d.Members = append(d.Members, m)
		}
		o.Dims = append(o.Dims, d)
	}
	return o
}

func TestManyCubes(t *testing.T) {
	next := turner(11)
	kinds := map[api.Cell]int{}
	for range 150 {
		o := anyOutline(next)
		cells, err := place.Cells(o)
		if err != nil {
			t.Fatalf("%v is wrong: %v", o, err)
		}
		var all []api.Place
		var l []api.Entry
		written := map[string]int{}
		for k := range cells {
			p, _ := place.Of(o, k)
			all = append(all, p)
			if is, _ := place.Leaf(o, p); is && next(3) > 0 {
				n := next(7) - 3
				l = append(l, api.Entry{At: p, N: n})
				written[fmt.Sprint(p)] = n
			}
		}
		forth, back := []int{}, []int{}
		for i := range o.Dims {
			forth, back = append(forth, i), append([]int{i}, back...)
		}
		for _, p := range all {
			want := expectValue(o, written, p, forth)
			if other := expectValue(o, written, p, back); other != want {
				t.Fatalf("%v at %v: %v one way, %v the other", o, p, want, other)
			}
			valueOne(t, o, l, p, want, api.OK)
			kinds[api.Cell{Kind: want.Kind, N: min(want.N*want.N, 1)}]++
			var leafs []api.Place
			for _, leaf := range all {
				n, is := expectWeight(o, p, leaf)
				if !is {
					weightOne(t, o, p, leaf, 0, api.ErrShape)
					continue
				}
				leafs = append(leafs, leaf)
				weightOne(t, o, p, leaf, n, api.OK)
			}
			leafsOne(t, o, p, leafs, api.OK)
		}
		if t.Failed() {
			t.FailNow()
		}
	}
	if kinds[api.Cell{}] < 50 || kinds[number(0)] < 50 || kinds[number(1)] < 50 {
		t.Errorf("too few of a kind: %v", kinds)
	}
}

// The greatest cube: every leaf written with as much as may be, either way.
func TestFullCube(t *testing.T) {
	o := sized(12, 5, 10, 5)
	for _, n := range []int{api.MaxInput, -api.MaxInput} {
		var l []api.Entry
		for k := range 3000 {
			p, _ := place.Of(o, k)
			if is, _ := place.Leaf(o, p); is {
				l = append(l, api.Entry{At: p, N: n})
			}
		}
		if len(l) != 11*4*9*4 {
			t.Fatalf("%d leafs", len(l))
		}
		valueOne(t, o, l, api.Place{0, 0, 0, 0}, number(1584*n), api.OK)
		valueOne(t, o, l, api.Place{0, 4, 9, 0}, number(44*n), api.OK)
		valueOne(t, o, l, api.Place{11, 4, 9, 4}, number(n), api.OK)
		var want []api.Place
		for _, e := range l {
			want = append(want, e.At)
			weightOne(t, o, api.Place{0, 0, 0, 0}, e.At, 1, api.OK)
		}
		leafsOne(t, o, api.Place{0, 0, 0, 0}, want, api.OK)
	}
}

// A row of members, each a part of the one ahead, with the sign turning at each step.
func TestDeepest(t *testing.T) {
	o := sized(12, 12)
	for i := range o.Dims {
		for k := range o.Dims[i].Members {
			o.Dims[i].Members[k].Parent, o.Dims[i].Members[k].Sign = k-1, -1
		}
	}
	for i := range 12 {
		for k := range 12 {
			sign := 1 - 2*((i+k)%2)
			valueOne(t, o, []api.Entry{at(5, 11, 11)}, api.Place{i, k}, number(5*sign), api.OK)
			leafsOne(t, o, api.Place{i, k}, []api.Place{{11, 11}}, api.OK)
			weightOne(t, o, api.Place{i, k}, api.Place{11, 11}, sign, api.OK)
		}
	}
}

// behind gives a place behind whose length something lies.
func behind(members ...int) api.Place {
	p := append(make(api.Place, 0, len(members)+2), members...)
	p[:len(p)+1][len(p)] = 66
	return p
}

// P2: what is handed in stays as it was, what lies behind its length is not read, and what comes out is the caller's.
func TestNothingSharedOrWritten(t *testing.T) {
	o := shop()
	for i := range o.Dims {
		members := o.Dims[i].Members
		o.Dims[i].Members = append(make([]api.Member, 0, 20), members...)
		o.Dims[i].Members[:20][len(members)] = api.Member{Name: "behind", Parent: 1, Sign: 1}
	}
	l := append(make([]api.Entry, 0, 4), api.Entry{At: behind(1, 1), N: 10}, api.Entry{At: behind(3, 3), N: 4})
	l[:3][2] = at(1_000, 4, 1)
	p, leaf := behind(0, 0), behind(3, 3)
	was := fmt.Sprint(o, l[:4], p[:4], leaf[:4])
	for range 3 {
		valueOne(t, o, l, p, number(14), api.OK)
		weightOne(t, o, p, leaf, 1, api.OK)
		first, _ := roll.Leafs(o, p)
		second, _ := roll.Leafs(o, p)
		want := fmt.Sprint(second)
		for k, one := range first {
			one = one[:cap(one)]
			for j := range one {
				one[j] = -9 - k
			}
			for j, other := range first[k+1:] {
				if !slices.Equal(other, second[k+1+j]) {
					t.Fatalf("places of one answer share memory: %v", first)
				}
			}
		}
		if fmt.Sprint(second) != want {
			t.Errorf("two answers share memory: %v, want %s", second, want)
		}
		if again, _ := roll.Leafs(o, p); fmt.Sprint(again) != want {
			t.Errorf("kept what it answered: %v, want %s", again, want)
		}
	}
	single, _ := roll.Leafs(o, leaf)
	single[0][0] = -9
	if got := fmt.Sprint(o, l[:4], p[:4], leaf[:4]); got != was {
		t.Errorf("what was handed in was written into: %s, was %s", got, was)
	}
	for i := range o.Dims {
		o.Dims[i].Members = slices.Clone(o.Dims[i].Members)
	}
	if !reflect.DeepEqual(o, shop()) {
		t.Errorf("the outline was written into: %v", o)
	}
}
