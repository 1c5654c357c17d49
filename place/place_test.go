package place_test

import (
	"fmt"
	"math"
	"reflect"
	"slices"
	"strings"
	"testing"

	"tallyhall/api"
	"tallyhall/outline"
	"tallyhall/place"
	"tallyhall/plain"
)

// shop is a cube of accounts (profit of sales less costs, and a share by formula), of times (a year of two halves), and of one place of business.
func shop() api.Outline {
	return api.Outline{Dims: []api.Dim{
		{Name: "account", Solve: 3, Members: []api.Member{
			{Name: "profit", Parent: -1, Sign: 1},
			{Name: "sales", Parent: 0, Sign: 1},
			{Name: "costs", Parent: 0, Sign: -1},
			{Name: "share", Parent: -1, Sign: 0, Formula: "sales/costs"},
		}},
		{Name: "time", Members: []api.Member{
			{Name: "year", Parent: -1, Sign: 1},
			{Name: "first", Parent: 0, Sign: 1},
			{Name: "second", Parent: 0, Sign: 0},
		}},
		{Name: "where", Solve: 9, Members: []api.Member{{Name: "here", Parent: -1, Sign: -1}}},
	}}
}

// sized is an outline of dims named p, q, r, and so on, with so many members each; no two members of the outline have the same name.
func sized(counts ...int) api.Outline {
	var o api.Outline
	for i, n := range counts {
		d := api.Dim{Name: string(rune('p' + i))}
		for k := 0; k < n; k++ {
			d.Members = append(d.Members, api.Member{Name: d.Name + string(rune('a'+k)), Parent: -1, Sign: 1})
		}
		o.Dims = append(o.Dims, d)
	}
	return o
}

// sizes of outlines that are gone over place by place, the greatest that may be among them.
var sizes = [][]int{
	{1}, {2}, {12}, {1, 1}, {2, 3}, {3, 2}, {12, 12}, {1, 5, 1}, {2, 3, 4}, {4, 3, 2}, {12, 12, 12}, {1, 1, 1, 1}, {2, 1, 3, 1},
	{3, 4, 5, 2}, {5, 5, 10, 12}, {12, 10, 5, 5}, {12, 12, 10, 2},
}

// places of an outline in order: all that go on from each member of the first dim, one after another.
func places(dims []api.Dim) []api.Place {
	if len(dims) == 0 {
		return []api.Place{{}}
	}
	var l []api.Place
	for k := range dims[0].Members {
		for _, rest := range places(dims[1:]) {
			l = append(l, append(api.Place{k}, rest...))
		}
	}
	return l
}

// told is what the calls that are given a place answer.
type told struct {
	number int
	text   string
	leaf   bool
	err    api.Errno
}

// ask holds the calls against each other: all of them tell the same error.
func ask(t *testing.T, o api.Outline, p api.Place) told {
	t.Helper()
	var a told
	var l [4]error
	l[0] = place.Check(o, p)
	a.number, l[1] = place.Number(o, p)
	a.text, l[2] = place.Print(o, p)
	a.leaf, l[3] = place.Leaf(o, p)
	a.err = plain.Told(l[0])
	for i, err := range l {
		if plain.Told(err) != a.err {
			t.Errorf("%v in %v: call %d tells %v, Check %v", p, o, i, err, l[0])
		}
	}
	return a
}

func askOne(t *testing.T, o api.Outline, p api.Place, want told) {
	t.Helper()
	if got := ask(t, o, p); got != want {
		t.Errorf("%v in %v: got %+v, want %+v", p, o, got, want)
	}
}

func ofOne(t *testing.T, o api.Outline, n int, want api.Place, e api.Errno) {
	t.Helper()
	if got, err := place.Of(o, n); !slices.Equal(got, want) || plain.Told(err) != e {
		t.Errorf("Of(%v, %d) = %v, %v, want %v, %v", o, n, got, err, want, e)
	}
}

func parseOne(t *testing.T, o api.Outline, text string, want api.Place, e api.Errno) {
	t.Helper()
	if got, err := place.Parse(o, text); !slices.Equal(got, want) || plain.Told(err) != e {
		t.Errorf("Parse(%v, %q) = %v, %v, want %v, %v", o, text, got, err, want, e)
	}
}

func cellsOne(t *testing.T, o api.Outline, want int, e api.Errno) {
	t.Helper()
	if got, err := place.Cells(o); got != want || plain.Told(err) != e {
		t.Errorf("Cells(%v) = %d, %v, want %d, %v", o, got, err, want, e)
	}
}

func TestShop(t *testing.T) {
	for n, want := range []struct {
		text string
		leaf bool
	}{
		{"profit.year.here", false}, {"profit.first.here", false}, {"profit.second.here", false},
		{"sales.year.here", false}, {"sales.first.here", true}, {"sales.second.here", true},
		{"costs.year.here", false}, {"costs.first.here", true}, {"costs.second.here", true},
		{"share.year.here", false}, {"share.first.here", false}, {"share.second.here", false},
	} {
		p := api.Place{n / 3, n % 3, 0}
		askOne(t, shop(), p, told{number: n, text: want.text, leaf: want.leaf})
		ofOne(t, shop(), n, p, api.OK)
		parseOne(t, shop(), want.text, p, api.OK)
	}
	cellsOne(t, shop(), 12, api.OK)
}

// Every place of small and of the greatest outlines, in order, as a number and as a text, either way round.
func TestEveryPlace(t *testing.T) {
	for _, l := range sizes {
		o := sized(l...)
		all := places(o.Dims)
		for n, p := range all {
			var names []string
			for i, k := range p {
				names = append(names, o.Dims[i].Members[k].Name)
			}
			text := strings.Join(names, ".")
			askOne(t, o, p, told{number: n, text: text, leaf: true})
			ofOne(t, o, n, p, api.OK)
			parseOne(t, o, text, p, api.OK)
		}
		cellsOne(t, o, len(all), api.OK)
		for _, n := range []int{-1, -2, -len(all), len(all), len(all) + 1, 2 * len(all), math.MinInt, math.MaxInt} {
			ofOne(t, o, n, nil, api.ErrRange)
		}
	}
}

// A place is of leafs only if each of its members is one, whichever dim has the one that is not: with parts, or with a formula.
func TestLeaf(t *testing.T) {
	for _, inner := range []func(d *api.Dim){
		func(d *api.Dim) { d.Members[1].Parent = 0 },
		func(d *api.Dim) { d.Members[1].Parent, d.Members[1].Sign = 0, 0 },
		func(d *api.Dim) { d.Members[0].Formula = "7" },
		func(d *api.Dim) { d.Members[0].Formula = "no formula at all" },
	} {
		for set := 0; set < 1<<4; set++ {
			o := sized(2, 2, 2, 2)
			for i := range o.Dims {
				if set>>i&1 == 1 {
					inner(&o.Dims[i])
				}
			}
			for _, p := range places(o.Dims) {
				want := true
				for i, k := range p {
					want = want && (k == 1 || set>>i&1 == 0)
				}
				if got, err := place.Leaf(o, p); err != nil || got != want {
					t.Errorf("Leaf(%v, %v) = %v, %v, want %v", o, p, got, err, want)
				}
			}
		}
	}
}

// A list of another length than that of the dims, also one that holds members of none.
func TestNotAsMany(t *testing.T) {
	for dims := 1; dims <= api.MaxDims; dims++ {
		o := sized([]int{2, 2, 2, 2}[:dims]...)
		for n := 0; n < 8; n++ {
			if n == dims {
				continue
			}
			askOne(t, o, make(api.Place, n), told{err: api.ErrShape})
			for i := 0; i < n; i++ {
				p := make(api.Place, n)
				p[i] = -1
				askOne(t, o, p, told{err: api.ErrShape})
			}
		}
		askOne(t, o, nil, told{err: api.ErrShape})
		askOne(t, o, make(api.Place, 1000), told{err: api.ErrShape})
	}
}

// The bound of each dim is its own.
func TestNoMember(t *testing.T) {
	for _, l := range [][]int{{1}, {3}, {12}, {2, 3}, {3, 2}, {1, 12, 2}, {12, 1, 2, 3}, {3, 2, 1, 12}} {
		o := sized(l...)
		for i, n := range l {
			for _, k := range []int{-1, -2, -n, n, n + 1, math.MinInt, math.MaxInt} {
				p := make(api.Place, len(l))
				p[i] = k
				askOne(t, o, p, told{err: api.ErrRange})
				for j := range p {
					if j != i {
						p[j] = l[j] - 1
					}
				}
				askOne(t, o, p, told{err: api.ErrRange})
			}
		}
		askOne(t, o, api.Place(slices.Clone(l)), told{err: api.ErrRange})
	}
}

// wrongOutlines by the error of chapter 2.
func wrongOutlines() []api.Outline {
	with := func(change func(o *api.Outline)) api.Outline {
		o := sized(2, 3)
		change(&o)
		return o
	}
	return []api.Outline{
		{}, {Dims: []api.Dim{}}, {Dims: make([]api.Dim, 1)}, {Dims: make([]api.Dim, 5)}, {Dims: make([]api.Dim, 500)},
		sized(0), sized(2, 0), sized(0, 2), sized(13), sized(2, 13), sized(1, 1, 1, 1, 1), sized(12, 12, 12, 2), sized(7, 7, 7, 9),
		with(func(o *api.Outline) { o.Dims[1].Name = "p" }),
		with(func(o *api.Outline) { o.Dims[0].Name = "" }),
		with(func(o *api.Outline) { o.Dims[1].Solve = 10 }),
		with(func(o *api.Outline) { o.Dims[1].Members[2].Name = "qa" }),
		with(func(o *api.Outline) { o.Dims[1].Members[2].Name = "q.a" }),
		with(func(o *api.Outline) { o.Dims[0].Members[1].Parent = 1 }),
		with(func(o *api.Outline) { o.Dims[0].Members[0].Parent = math.MaxInt }),
		with(func(o *api.Outline) { o.Dims[1].Members[1].Sign = 2 }),
		with(func(o *api.Outline) { o.Dims[0].Members[0].Formula, o.Dims[0].Members[1].Parent = "7", 0 }),
		with(func(o *api.Outline) { o.Dims[1].Members[0].Formula = strings.Repeat("a", 101) }),
	}
}

// The outline comes first, as chapter 2 tells it: ahead of the place's length, its members, a number and a text.
func TestOutlineFirst(t *testing.T) {
	for _, o := range wrongOutlines() {
		_, _, err := outline.All(o)
		e := plain.Told(err)
		if e == api.OK {
			t.Fatalf("%v is right", o)
		}
		cellsOne(t, o, 0, e)
		for n := 0; n < 6; n++ {
			askOne(t, o, make(api.Place, n), told{err: e})
			p := make(api.Place, n)
			for i := range p {
				p[i] = []int{-1, 99, math.MinInt, math.MaxInt}[i%4]
			}
			askOne(t, o, p, told{err: e})
		}
		for _, n := range []int{0, 1, -1, 99999, math.MinInt, math.MaxInt} {
			ofOne(t, o, n, nil, e)
		}
		for _, text := range []string{"", ".", "pa", "pa.qa", "pb.qb", "pa.qa.ra", "nobody.nobody", "a.b.c.d.e.f", "\x00"} {
			parseOne(t, o, text, nil, e)
		}
	}
}

// Not as many names as dims, whatever the names are.
func TestParseNotAsMany(t *testing.T) {
	for dims := 1; dims <= api.MaxDims; dims++ {
		o := sized([]int{2, 2, 2, 2}[:dims]...)
		right := []string{"pa", "qb", "ra", "sb", "ta", "ub", "va"}
		for n := 1; n <= len(right); n++ {
			if n == dims {
				continue
			}
			parseOne(t, o, strings.Join(right[:n], "."), nil, api.ErrSyntax)
			parseOne(t, o, strings.Repeat(".", n-1), nil, api.ErrSyntax)
			parseOne(t, o, strings.Repeat("nobody.", n-1)+"nobody", nil, api.ErrSyntax)
		}
		text := strings.Join(right[:dims], ".")
		for _, s := range []string{text + ".", "." + text, "." + text + ".", text + ".." + text, strings.Replace(text, "a", "a.", 1)} {
			parseOne(t, o, s, nil, api.ErrSyntax)
		}
		parseOne(t, o, strings.Repeat(".", 1_000_000), nil, api.ErrSyntax)
	}
}

// As many, of which one is none of its dim: another dim's, one beside a name, and what could name nothing.
func TestParseNobody(t *testing.T) {
	o := sized(2, 12, 3, 1)
	right := []string{"pb", "ql", "rc", "sa"}
	parseOne(t, o, strings.Join(right, "."), api.Place{1, 11, 2, 0}, api.OK)
	for i, name := range right {
		for _, s := range []string{
			"", "nobody", name + "a", "a" + name, name[:1], name[1:], name + " ", " " + name, name + "\n", strings.ToUpper(name), name + "\x00", "\x00", "\xff",
			"0", "-1", "+", "*", "é", right[(i+1)%4], o.Dims[i].Name, name + "," + name, strings.Repeat(name, 1000),
		} {
			l := slices.Clone(right)
			l[i] = s
			parseOne(t, o, strings.Join(l, "."), nil, api.ErrNone)
		}
	}
	parseOne(t, o, "...", nil, api.ErrNone)
	parseOne(t, o, "sa.rc.ql.pb", nil, api.ErrNone)
	parseOne(t, sized(2), "", nil, api.ErrNone)
	parseOne(t, sized(2), "p", nil, api.ErrNone)
	parseOne(t, sized(2, 2), "pa,qa", nil, api.ErrSyntax)
	parseOne(t, sized(2, 2), "pa qa", nil, api.ErrSyntax)
	parseOne(t, sized(2, 2), "paqa", nil, api.ErrSyntax)
}

// Members of one name in several dims are told apart by where the name stands.
func TestSameNames(t *testing.T) {
	o := sized(3, 3)
	for k, s := range []string{"a", "b", "c"} {
		o.Dims[0].Members[k].Name, o.Dims[1].Members[2-k].Name = s, s
	}
	parseOne(t, o, "a.a", api.Place{0, 2}, api.OK)
	parseOne(t, o, "b.a", api.Place{1, 2}, api.OK)
	parseOne(t, o, "c.b", api.Place{2, 1}, api.OK)
	askOne(t, o, api.Place{0, 0}, told{text: "a.c", leaf: true})
	askOne(t, o, api.Place{2, 0}, told{number: 6, text: "c.c", leaf: true})
}

// A text of a few bytes is a place's just if it is one that Print tells.
func TestParseEveryText(t *testing.T) {
	o := sized(2, 2)
	for i := range o.Dims {
		o.Dims[i].Members[0].Name, o.Dims[i].Members[1].Name = "a", "ab"
	}
	printed := map[string]api.Place{}
	for _, p := range places(o.Dims) {
		printed[ask(t, o, p).text] = p
	}
	var lay func(text string)
	lay = func(text string) {
		want, e := printed[text], api.OK
		switch {
		case strings.Count(text, ".") != 1:
			e = api.ErrSyntax
		case want == nil:
			e = api.ErrNone
		}
		parseOne(t, o, text, want, e)
		for _, c := range "ab.A" {
			if len(text) < 6 {
				lay(text + string(c))
			}
		}
	}
	lay("")
	if len(printed) != 4 {
		t.Errorf("of four places the texts are %v", printed)
	}
}

// P2: what is handed in stays as it was, what lies behind its length is not read, and what comes out is the caller's.
func TestNothingSharedOrWritten(t *testing.T) {
	o := shop()
	o.Dims = append(make([]api.Dim, 0, 6), o.Dims...)
	o.Dims[:4][3] = api.Dim{Name: "behind", Members: sized(2).Dims[0].Members}
	for i := range o.Dims {
		l := o.Dims[i].Members
		l = append(make([]api.Member, 0, 20), l...)
		l[:len(l)+1][len(l)] = api.Member{Name: "behind", Parent: len(l) - 1, Sign: 1}
		o.Dims[i].Members = l
	}
	p := append(make(api.Place, 0, 5), 2, 1, 0)
	p[:4][3] = 1
	for range 2 {
		askOne(t, o, p, told{number: 7, text: "costs.first.here", leaf: true})
		askOne(t, o, p[:2], told{err: api.ErrShape})
		askOne(t, o, p[:4], told{err: api.ErrShape})
		askOne(t, o, api.Place{2, 3, 0}, told{err: api.ErrRange})
		cellsOne(t, o, 12, api.OK)
		parseOne(t, o, "costs.behind.here", nil, api.ErrNone)
		parseOne(t, o, "costs.first", nil, api.ErrSyntax)
		a, _ := place.Of(o, 7)
		b, _ := place.Parse(o, "costs.first.here")
		c, _ := place.Of(o, 7)
		a, b = a[:cap(a)], b[:cap(b)]
		for i := range a {
			a[i] = -9
		}
		for i := range b {
			b[i] = -8
		}
		if fmt.Sprint(c) != "[2 1 0]" {
			t.Errorf("two answers share memory: %v", c)
		}
	}
	if !slices.Equal(p, api.Place{2, 1, 0}) || p[:4][3] != 1 {
		t.Errorf("the place was written into: %v", p[:5])
	}
	if !reflect.DeepEqual(o, shop()) || o.Dims[:4][3].Name != "behind" {
		t.Errorf("the outline was written into: %v", o)
	}
	for _, d := range o.Dims {
		if d.Members[:len(d.Members)+1][len(d.Members)].Name != "behind" {
			t.Errorf("behind the members of %s was written", d.Name)
		}
	}
}
