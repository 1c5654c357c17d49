package tree_test

import (
	"math"
	"reflect"
	"slices"
	"strings"
	"testing"

	"tallyhall/api"
	"tallyhall/outline"
	"tallyhall/plain"
	"tallyhall/tree"
)

// answers are what all calls tell of one dim, one member and one leaf.
type answers struct {
	parts, leafs, path []int
	leaf               bool
	weight, depth      int
	errs               [6]api.Errno
}

func ask(d api.Dim, i, leaf int) answers {
	var a answers
	var l [6]error
	a.parts, l[0] = tree.Parts(d, i)
	a.leafs, l[1] = tree.Leafs(d, i)
	a.path, l[2] = tree.Path(d, i)
	a.leaf, l[3] = tree.Leaf(d, i)
	a.weight, l[4] = tree.Weight(d, i, leaf)
	a.depth, l[5] = tree.Depth(d)
	for k, err := range l {
		a.errs[k] = plain.Told(err)
	}
	return a
}

// same holds answers against each other; an empty list and nil are the same.
func same(a, b answers) bool {
	return slices.Equal(a.parts, b.parts) && slices.Equal(a.leafs, b.leafs) && slices.Equal(a.path, b.path) &&
		a.leaf == b.leaf && a.weight == b.weight && a.depth == b.depth && a.errs == b.errs
}

func askOne(t *testing.T, d api.Dim, i, leaf int, want answers) {
	t.Helper()
	if got := ask(d, i, leaf); !same(got, want) {
		t.Errorf("%v at %d, leaf %d: got %+v, want %+v", d, i, leaf, got, want)
	}
}

// dim of members a, b, c, and so on, with these parents, all of Sign 1.
func dim(parents ...int) api.Dim {
	d := api.Dim{Name: "x"}
	for i, p := range parents {
		d.Members = append(d.Members, api.Member{Name: string(rune('a' + i)), Parent: p, Sign: 1})
	}
	return d
}

// shop is profit (of sales, less costs, with a note that counts nothing), sales of north and south, costs of wages and rent (which comes off), a share by formula, and a member apart.
func shop() api.Dim {
	return api.Dim{Name: "account", Solve: 3, Members: []api.Member{
		{Name: "profit", Parent: -1, Sign: -1},
		{Name: "sales", Parent: 0, Sign: 1},
		{Name: "costs", Parent: 0, Sign: -1},
		{Name: "north", Parent: 1, Sign: 1},
		{Name: "wages", Parent: 2, Sign: 1},
		{Name: "south", Parent: 1, Sign: 1},
		{Name: "rent", Parent: 2, Sign: -1},
		{Name: "note", Parent: 0, Sign: 0},
		{Name: "share", Parent: 0, Sign: 1, Formula: "north/south"},
		{Name: "apart", Parent: -1, Sign: 0},
		{Name: "memo", Parent: 7, Sign: -1},
	}}
}

func TestParts(t *testing.T) {
	want := [][]int{{1, 2, 7, 8}, {3, 5}, {4, 6}, nil, nil, nil, nil, {10}, nil, nil, nil}
	for i, l := range want {
		if got, err := tree.Parts(shop(), i); err != nil || !slices.Equal(got, l) {
			t.Errorf("Parts(%d) = %v, %v, want %v", i, got, err, l)
		}
	}
}

func TestLeafs(t *testing.T) {
	want := [][]int{{3, 4, 5, 6, 10}, {3, 5}, {4, 6}, {3}, {4}, {5}, {6}, {10}, nil, {9}, {10}}
	for i, l := range want {
		if got, err := tree.Leafs(shop(), i); err != nil || !slices.Equal(got, l) {
			t.Errorf("Leafs(%d) = %v, %v, want %v", i, got, err, l)
		}
	}
}

func TestPath(t *testing.T) {
	want := [][]int{{0}, {1, 0}, {2, 0}, {3, 1, 0}, {4, 2, 0}, {5, 1, 0}, {6, 2, 0}, {7, 0}, {8, 0}, {9}, {10, 7, 0}}
	for i, l := range want {
		if got, err := tree.Path(shop(), i); err != nil || !slices.Equal(got, l) {
			t.Errorf("Path(%d) = %v, %v, want %v", i, got, err, l)
		}
	}
}

func TestLeaf(t *testing.T) {
	for i, m := range shop().Members {
		want := slices.Contains([]string{"north", "south", "wages", "rent", "apart", "memo"}, m.Name)
		if got, err := tree.Leaf(shop(), i); err != nil || got != want {
			t.Errorf("Leaf(%s) = %v, %v, want %v", m.Name, got, err, want)
		}
	}
}

// The Sign of the Member itself does not count, that of the Leaf does, and every one between.
func TestWeight(t *testing.T) {
	for _, c := range []struct{ i, leaf, want int }{
		{0, 3, 1}, {0, 5, 1}, {0, 4, -1}, {0, 6, 1}, {0, 10, 0}, {0, 9, 0},
		{1, 3, 1}, {1, 5, 1}, {1, 4, 0}, {1, 9, 0},
		{2, 4, 1}, {2, 6, -1}, {2, 3, 0},
		{7, 10, -1}, {7, 3, 0},
		{3, 3, 1}, {6, 6, 1}, {9, 9, 1}, {10, 10, 1}, {3, 5, 0}, {9, 3, 0},
		{8, 3, 0}, {8, 10, 0},
	} {
		if got, err := tree.Weight(shop(), c.i, c.leaf); err != nil || got != c.want {
			t.Errorf("Weight(%d, %d) = %d, %v, want %d", c.i, c.leaf, got, err, c.want)
		}
	}
}

// What has Parts, or a Formula, is no Leaf: not even in itself, nor where it would be no part.
func TestWeightOfNoLeaf(t *testing.T) {
	for _, leaf := range []int{0, 1, 2, 7, 8} {
		for i := range shop().Members {
			if got, err := tree.Weight(shop(), i, leaf); got != 0 || plain.Told(err) != api.ErrShape {
				t.Errorf("Weight(%d, %d) = %d, %v, want 0, ErrShape", i, leaf, got, err)
			}
		}
	}
}

func TestDepth(t *testing.T) {
	for _, c := range []struct {
		d    api.Dim
		want int
	}{
		{dim(-1), 1}, {dim(-1, -1, -1), 1}, {dim(-1, 0), 2}, {dim(-1, 0, 0, 0), 2}, {dim(-1, 0, 1, 0), 3},
		{dim(-1, -1, 1, 2, 0), 3}, {shop(), 3}, {dim(-1, 0, 1, 2, 3, 4, 5, 6, 7, 8, 9, 10), 12},
	} {
		if got, err := tree.Depth(c.d); err != nil || got != c.want {
			t.Errorf("Depth(%v) = %d, %v, want %d", c.d, got, err, c.want)
		}
	}
	told := dim(-1, 0)
	told.Members[1].Formula = "7"
	if got, err := tree.Depth(told); err != nil || got != 2 {
		t.Errorf("a Member with a Formula: Depth = %d, %v, want 2", got, err)
	}
}

// A Member without Parts is its own Leaf; with a Formula, whatever it says, it is none and has none.
func TestOneMember(t *testing.T) {
	askOne(t, dim(-1), 0, 0, answers{leafs: []int{0}, path: []int{0}, leaf: true, weight: 1, depth: 1})
	for _, f := range []string{"7", "a", "no formula at all", "\x00", " ", strings.Repeat("1", 100)} {
		d := dim(-1)
		d.Members[0].Formula = f
		askOne(t, d, 0, 0, answers{path: []int{0}, depth: 1, errs: [6]api.Errno{4: api.ErrShape}})
	}
	for _, sign := range []int{-1, 0} {
		d := dim(-1)
		d.Members[0].Sign = sign
		askOne(t, d, 0, 0, answers{leafs: []int{0}, path: []int{0}, leaf: true, weight: 1, depth: 1})
	}
}

// Parts that are all told by Formulas: the Member is no Leaf, and has none.
func TestAllPartsByFormula(t *testing.T) {
	d := dim(-1, 0, 0)
	d.Members[1].Formula, d.Members[2].Formula = "1", "b"
	askOne(t, d, 0, 0, answers{parts: []int{1, 2}, path: []int{0}, depth: 2, errs: [6]api.Errno{4: api.ErrShape}})
}

// noPlaces are no places of one of n members.
func noPlaces(n int) []int {
	return []int{-1, -2, n, n + 1, math.MinInt, math.MaxInt}
}

func TestNoPlace(t *testing.T) {
	bad := [6]api.Errno{api.ErrRange, api.ErrRange, api.ErrRange, api.ErrRange, api.ErrRange, api.OK}
	for _, i := range noPlaces(4) {
		for leaf := 0; leaf < 4; leaf++ {
			askOne(t, dim(-1, 0, 1, 1), i, leaf, answers{depth: 3, errs: bad})
		}
		askOne(t, dim(-1, 0, 1, 1), i, i, answers{depth: 3, errs: bad})
	}
	for _, leaf := range noPlaces(4) {
		want := answers{leafs: []int{3}, path: []int{3, 1, 0}, leaf: true, depth: 3, errs: [6]api.Errno{4: api.ErrRange}}
		askOne(t, dim(-1, 0, 1, 1), 3, leaf, want)
	}
}

// Check comes ahead of what is no place, and that ahead of what is no Leaf.
func TestFaultOrder(t *testing.T) {
	for _, c := range wrongDims() {
		_, err := outline.Check(c)
		e := plain.Told(err)
		if e == api.OK {
			t.Fatalf("%v is right", c)
		}
		for _, i := range []int{0, 1, -1, 99, math.MinInt, math.MaxInt} {
			for _, leaf := range []int{0, 1, -1, 99, math.MinInt, math.MaxInt} {
				askOne(t, c, i, leaf, answers{errs: [6]api.Errno{e, e, e, e, e, e}})
			}
		}
	}
	for _, i := range noPlaces(2) {
		if n, err := tree.Weight(dim(-1, 0), i, 0); n != 0 || plain.Told(err) != api.ErrRange {
			t.Errorf("Weight(%d, of no Leaf) = %d, %v, want 0, ErrRange", i, n, err)
		}
	}
}

func wrongDims() []api.Dim {
	with := func(i int, change func(m *api.Member)) api.Dim {
		d := dim(-1, 0, 0, -1)
		change(&d.Members[i])
		return d
	}
	l := []api.Dim{{}, {Name: "x"}, {Name: "X", Members: dim(-1).Members}, dim(make([]int, 13)...)}
	for i := 0; i < 4; i++ {
		l = append(l,
			with(i, func(m *api.Member) { m.Name = "" }),
			with(i, func(m *api.Member) { m.Parent = i }),
			with(i, func(m *api.Member) { m.Parent = -2 }),
			with(i, func(m *api.Member) { m.Parent = math.MaxInt }),
			with(i, func(m *api.Member) { m.Sign = 2 }),
			with(i, func(m *api.Member) { m.Formula = strings.Repeat("a", 101) }))
	}
	return append(l,
		api.Dim{Name: "x", Solve: 10, Members: dim(-1).Members},
		with(3, func(m *api.Member) { m.Name = "a" }),
		with(0, func(m *api.Member) { m.Formula = "7" }),
		// Two that are parts of each other, with nowhere up to.
		with(0, func(m *api.Member) { m.Parent = 1 }))
}

// under tells, from above, all that are the member or below it, with the product of the signs on the way down.
func under(d api.Dim, i, sign int, out map[int]int) {
	out[i] = sign
	for k, m := range d.Members {
		if m.Parent == i {
			under(d, k, sign*m.Sign, out)
		}
	}
}

// expect works out from above what the program tells from below.
func expect(d api.Dim, i, leaf int) answers {
	var a answers
	isLeaf := func(k int) bool {
		below := map[int]int{}
		under(d, k, 1, below)
		return len(below) == 1 && d.Members[k].Formula == ""
	}
	below := map[int]int{}
	under(d, i, 1, below)
	for k, m := range d.Members {
		if m.Parent == i {
			a.parts = append(a.parts, k)
		}
		if _, ok := below[k]; ok && isLeaf(k) {
			a.leafs = append(a.leafs, k)
		}
	}
	for k := len(d.Members) - 1; k >= 0; k-- {
		above := map[int]int{}
		under(d, k, 1, above)
		if _, ok := above[i]; ok {
			a.path = append(a.path, k)
		}
	}
	a.leaf = isLeaf(i)
	if isLeaf(leaf) {
		a.weight = below[leaf]
	} else {
		a.errs[4] = api.ErrShape
	}
	depths := make([]int, len(d.Members))
	for k, m := range d.Members {
		depths[k] = 1
		if m.Parent >= 0 {
			depths[k] = depths[m.Parent] + 1
		}
	}
	a.depth = slices.Max(depths)
	return a
}

// forests gives every dim of n members: every Parent, with Signs and a Formula by turns.
func forests(n int, each func(d api.Dim)) {
	parents := make([]int, n)
	turn := 0
	var lay func(i int)
	lay = func(i int) {
		if i < n {
			for p := -1; p < i; p++ {
				parents[i] = p
				lay(i + 1)
			}
			return
		}
		for told := -1; told < n; told++ {
			d := dim(parents...)
			for k := range d.Members {
				turn++
				d.Members[k].Sign = []int{1, -1, -1, 1, 0, -1, 1}[turn%7]
			}
			if told >= 0 {
				d.Members[told].Formula = "1+1"
			}
			if _, err := outline.Check(d); err == nil {
				each(d)
			}
		}
	}
	lay(0)
}

func TestEveryForest(t *testing.T) {
	for n := 1; n <= 6; n++ {
		forests(n, func(d api.Dim) {
			for i := 0; i < n; i++ {
				for leaf := 0; leaf < n; leaf++ {
					askOne(t, d, i, leaf, expect(d, i, leaf))
				}
			}
			if t.Failed() {
				t.FailNow()
			}
		})
	}
}

// As many as may be, in a row down, and all beside each other below one.
func TestGreatest(t *testing.T) {
	deep, wide := dim(-1), dim(-1)
	for i := 1; i < api.MaxMembers; i++ {
		m := api.Member{Name: strings.Repeat(string(rune('a'+i)), 8), Parent: i - 1, Sign: -1}
		deep.Members = append(deep.Members, m)
		m.Parent = 0
		wide.Members = append(wide.Members, m)
	}
	for i := range deep.Members {
		for leaf := range deep.Members {
			askOne(t, deep, i, leaf, expect(deep, i, leaf))
			askOne(t, wide, i, leaf, expect(wide, i, leaf))
		}
	}
	if n, err := tree.Weight(deep, 0, 11); n != -1 || err != nil {
		t.Errorf("eleven times -1: Weight = %d, %v", n, err)
	}
	if n, err := tree.Weight(deep, 1, 11); n != 1 || err != nil {
		t.Errorf("ten times -1: Weight = %d, %v", n, err)
	}
}

// P2: what is handed in stays as it was, what lies behind its length too, and what comes out is the caller's.
func TestNothingSharedOrWritten(t *testing.T) {
	d := shop()
	d.Members = append(make([]api.Member, 0, 20), d.Members...)
	behind := d.Members[:20]
	behind[11] = api.Member{Name: "behind", Parent: 0, Sign: 1}
	for i := range d.Members {
		for leaf := range d.Members {
			first := ask(d, i, leaf)
			for _, l := range [][]int{first.parts, first.leafs, first.path} {
				l = l[:cap(l)]
				for k := range l {
					l[k] = -9
				}
			}
			if again := ask(d, i, leaf); !same(again, expect(shop(), i, leaf)) {
				t.Errorf("asked again at %d, %d: %+v", i, leaf, again)
			}
		}
	}
	if !reflect.DeepEqual(d, shop()) || behind[11].Name != "behind" || behind[12] != (api.Member{}) {
		t.Errorf("the dim was written into: %v", behind)
	}
}
