package rules_test

import (
	"math"
	"reflect"
	"slices"
	"strconv"
	"strings"
	"testing"

	"tallyhall/api"
	"tallyhall/formula"
	"tallyhall/outline"
	"tallyhall/plain"
	"tallyhall/rules"
)

// dim reads members, blanks between, of each name:parent:sign:formula.
func dim(text string) api.Dim {
	d := api.Dim{Name: "x"}
	for _, w := range strings.Fields(text) {
		p := strings.Split(w, ":")
		parent, _ := strconv.Atoi(p[1])
		sign, _ := strconv.Atoi(p[2])
		d.Members = append(d.Members, api.Member{Name: p[0], Parent: parent, Sign: sign, Formula: p[3]})
	}
	return d
}

// told is a dim of members a, b, c, and so on, apart from each other, with these formulas.
func told(formulas ...string) api.Dim {
	d := api.Dim{Name: "x"}
	for i, f := range formulas {
		d.Members = append(d.Members, api.Member{Name: string(rune('a' + i)), Parent: -1, Sign: 1, Formula: f})
	}
	return d
}

func checkOne(t *testing.T, d api.Dim, at int, e api.Errno) {
	t.Helper()
	if i, err := rules.Check(d); i != at || plain.Told(err) != e {
		t.Errorf("Check(%v) = %d, %v, want %d, %v", d, i, err, at, e)
	}
}

func orderOne(t *testing.T, d api.Dim, want []int, e api.Errno) {
	t.Helper()
	if l, err := rules.Order(d); !slices.Equal(l, want) || plain.Told(err) != e {
		t.Errorf("Order(%v) = %v, %v, want %v, %v", d, l, err, want, e)
	}
}

func needsOne(t *testing.T, d api.Dim, i int, want []int, e api.Errno) {
	t.Helper()
	if l, err := rules.Needs(d, i); !slices.Equal(l, want) || plain.Told(err) != e {
		t.Errorf("Needs(%v, %d) = %v, %v, want %v, %v", d, i, l, err, want, e)
	}
}

func allOne(t *testing.T, o api.Outline, at, member int, e api.Errno) {
	t.Helper()
	if i, k, err := rules.All(o); i != at || k != member || plain.Told(err) != e {
		t.Errorf("All(%v) = %d, %d, %v, want %d, %d, %v", o, i, k, err, at, member, e)
	}
}

// noPlaces are no places of one of n members.
func noPlaces(n int) []int {
	return []int{-1, -2, n, n + 1, math.MinInt, math.MaxInt}
}

// rightOne asks all calls of a dim that is right, by itself and with another one on either side.
func rightOne(t *testing.T, d api.Dim, needs [][]int, order []int) {
	t.Helper()
	checkOne(t, d, -1, api.OK)
	orderOne(t, d, order, api.OK)
	for i, l := range needs {
		needsOne(t, d, i, l, api.OK)
	}
	for _, i := range noPlaces(len(d.Members)) {
		needsOne(t, d, i, nil, api.ErrRange)
	}
	one, two := api.Dim{Name: "one", Members: told("").Members}, api.Dim{Name: "two", Members: told("").Members}
	allOne(t, api.Outline{Dims: []api.Dim{d}}, -1, -1, api.OK)
	allOne(t, api.Outline{Dims: []api.Dim{one, d, two}}, -1, -1, api.OK)
}

// wrongOne asks all calls of a dim that is wrong, by itself and behind others; in it, no place is told, be it one or not.
func wrongOne(t *testing.T, d api.Dim, at int, e api.Errno) {
	t.Helper()
	checkOne(t, d, at, e)
	orderOne(t, d, nil, e)
	for i := range d.Members {
		needsOne(t, d, i, nil, e)
	}
	for _, i := range noPlaces(len(d.Members)) {
		needsOne(t, d, i, nil, e)
	}
	one, two := api.Dim{Name: "one", Members: told("").Members}, api.Dim{Name: "two", Members: told("").Members}
	allOne(t, api.Outline{Dims: []api.Dim{d}}, 0, at, e)
	allOne(t, api.Outline{Dims: []api.Dim{one, d, two}}, 1, at, e)
	allOne(t, api.Outline{Dims: []api.Dim{one, two, d}}, 2, at, e)
}

func TestOrdinary(t *testing.T) {
	for _, c := range []struct {
		text  string
		needs [][]int
		order []int
	}{
		{"a:-1:1:", [][]int{nil}, []int{0}},
		{"a:-1:1:7", [][]int{nil}, []int{0}},
		{"a:-1:1: b:-1:1: c:-1:1:", [][]int{nil, nil, nil}, []int{0, 1, 2}},
		{"a:-1:1: b:0:1:", [][]int{{1}, nil}, []int{1, 0}},
		{"a:-1:1: b:0:-1:", [][]int{{1}, nil}, []int{1, 0}},
		{"a:-1:1: b:0:0:", [][]int{nil, nil}, []int{0, 1}},
		{"a:-1:0: b:0:1:", [][]int{{1}, nil}, []int{1, 0}},
		{"a:-1:1: b:0:1: c:0:0: d:0:-1: e:2:1:", [][]int{{1, 3}, nil, {4}, nil, nil}, []int{1, 3, 0, 4, 2}},
		{"a:-1:1:b b:-1:1:", [][]int{{1}, nil}, []int{1, 0}},
		{"a:-1:1: b:-1:1:a", [][]int{nil, {0}}, []int{0, 1}},
		{"a:-1:1:c+b b:-1:1: c:-1:1:", [][]int{{1, 2}, nil, nil}, []int{1, 2, 0}},
		{"a:-1:1:b+b*(b-b) b:-1:1:", [][]int{{1}, nil}, []int{1, 0}},
		{"a:-1:1:((b))/0 b:-1:1:", [][]int{{1}, nil}, []int{1, 0}},
		{"a:-1:1:0*b b:-1:1:", [][]int{{1}, nil}, []int{1, 0}},
		{"z:-1:1:m*a m:-1:1: a:-1:1:m", [][]int{{1, 2}, nil, {1}}, []int{1, 2, 0}},
		{"total:-1:1:north+south north:-1:1: south:-1:1:north*2", [][]int{{1, 2}, nil, {1}}, []int{1, 2, 0}},
		{"profit:-1:1: sales:0:1: costs:0:-1: share:-1:1:profit*100/sales", [][]int{{1, 2}, nil, nil, {0, 1}}, []int{1, 2, 0, 3}},
		{"profit:-1:1: sales:0:1: costs:0:-1:sales/2 north:1:1: south:1:1:", [][]int{{1, 2}, {3, 4}, {1}, nil, nil}, []int{3, 4, 1, 2, 0}},
		{"a:-1:1: b:0:1:c c:0:1:d d:0:1:", [][]int{{1, 2, 3}, {2}, {3}, nil}, []int{3, 2, 1, 0}},
		{"a:-1:1:d b:-1:1: c:-1:1: d:-1:1:", [][]int{{3}, nil, nil, nil}, []int{1, 2, 3, 0}},
		{"a:-1:1:b b:-1:1: c:-1:1: d:-1:1:", [][]int{{1}, nil, nil, nil}, []int{1, 0, 2, 3}},
		{"a:-1:1: b:0:1: c:1:0: d:2:1:b", [][]int{{1}, nil, {3}, {1}}, []int{1, 0, 3, 2}},
	} {
		rightOne(t, dim(c.text), c.needs, c.order)
	}
}

// What a member without a formula needs is told by the signs of its parts, not by its own.
func TestSigns(t *testing.T) {
	for own := -1; own <= 1; own++ {
		for sign := -1; sign <= 1; sign++ {
			d := dim("a:-1:1: b:0:1: c:0:1:")
			d.Members[0].Sign, d.Members[1].Sign = own, sign
			if sign == 0 {
				rightOne(t, d, [][]int{{2}, nil, nil}, []int{1, 2, 0})
			} else {
				rightOne(t, d, [][]int{{1, 2}, nil, nil}, []int{1, 2, 0})
			}
			e := dim("a:-1:1: b:-1:1:a")
			e.Members[0].Sign, e.Members[1].Sign = own, sign
			rightOne(t, e, [][]int{nil, {0}}, []int{0, 1})
		}
	}
}

// A ref is a member by all of its name; what is one of another dim, or the dim's own name, is none.
func TestRefIsNoMember(t *testing.T) {
	for _, f := range []string{"x", "d", "aa", "ab", "abcd", "abc+d", "d+abc", "7*(1-(b+e))", "a/0+zzzzzzzz", "x*0"} {
		for at := range 3 {
			d := dim("a:-1:1: abc:-1:1: b:-1:1:")
			d.Members[at].Formula = f
			wrongOne(t, d, at, api.ErrNone)
		}
	}
	one, two := dim("a:-1:1: b:-1:1:"), dim("c:-1:1: d:-1:1:c")
	two.Name = "y"
	allOne(t, api.Outline{Dims: []api.Dim{one, two}}, -1, -1, api.OK)
	two.Members[1].Formula = "a"
	allOne(t, api.Outline{Dims: []api.Dim{one, two}}, 1, 1, api.ErrNone)
	allOne(t, api.Outline{Dims: []api.Dim{two, one}}, 0, 1, api.ErrNone)
}

// noFormulas are texts of chapter 8 that are none, with what it tells of them.
func noFormulas() map[string]api.Errno {
	return map[string]api.Errno{
		" ": api.ErrSyntax, "+": api.ErrSyntax, "-1": api.ErrSyntax, "a+": api.ErrSyntax, "(a": api.ErrSyntax, "a)": api.ErrSyntax, "a b": api.ErrSyntax, "01": api.ErrSyntax, "A": api.ErrSyntax,
		"a\x00": api.ErrSyntax, "\xff": api.ErrSyntax, "é": api.ErrSyntax, "12345678": api.ErrSyntax, "abcdefghi": api.ErrSyntax, "x+": api.ErrSyntax, strings.Repeat("(", 100): api.ErrSyntax,
		"1000001": api.ErrRange, "x+9999999": api.ErrRange,
		"a" + strings.Repeat("+a", 15): api.ErrFull, "x" + strings.Repeat("*x", 49): api.ErrFull,
	}
}

func TestNoFormula(t *testing.T) {
	for f, e := range noFormulas() {
		if _, _, err := formula.Parse(f); plain.Told(err) != e {
			t.Fatalf("%q: chapter 8 tells %v, not %v", f, err, e)
		}
		for at := range 4 {
			d := dim("a:-1:1: b:-1:1: c:-1:1: d:-1:1:")
			d.Members[at].Formula = f
			wrongOne(t, d, at, e)
			for k := range 4 {
				if k != at {
					d.Members[k].Formula = "7"
				}
			}
			wrongOne(t, d, at, e)
		}
	}
}

// As long as a formula may be, and with as many refs.
func TestGreatestFormulas(t *testing.T) {
	rightOne(t, told(strings.Repeat("(", 48)+"b*10"+strings.Repeat(")", 48), ""), [][]int{{1}, nil}, []int{1, 0})
	rightOne(t, told("b"+strings.Repeat("+b", 14), ""), [][]int{{1}, nil}, []int{1, 0})
	d := api.Dim{Name: "abcdefgh", Solve: 9}
	for i := range 12 {
		d.Members = append(d.Members, api.Member{Name: strings.Repeat(string(rune('l'-i)), 7+i%2), Parent: -1})
	}
	var names []string
	for _, m := range d.Members[:11] {
		names = append(names, m.Name)
	}
	d.Members[11].Formula = strings.Join(names, "-")
	needs := make([][]int, 12)
	needs[11] = []int{0, 1, 2, 3, 4, 5, 6, 7, 8, 9, 10}
	rightOne(t, d, needs, []int{0, 1, 2, 3, 4, 5, 6, 7, 8, 9, 10, 11})
}

// The first member with a fault is told, whatever its fault is; then what needs itself.
func TestFirstFault(t *testing.T) {
	faults := map[string]api.Errno{"a+": api.ErrSyntax, "1000001": api.ErrRange, "x": api.ErrNone, "a" + strings.Repeat("+a", 15): api.ErrFull}
	for f, e := range faults {
		for g := range faults {
			wrongOne(t, told("", f, g), 1, e)
			wrongOne(t, told(f, "", g), 0, e)
			wrongOne(t, told("a", "b+c", f, g), 2, e)
			wrongOne(t, told("7", f, "c", g), 1, e)
		}
		wrongOne(t, told("a", f), 1, e)
		wrongOne(t, told("b", "a", f), 2, e)
		wrongOne(t, told(f, "b"), 0, e)
		d := dim("a:-1:1: b:0:1:a c:-1:1:")
		d.Members[2].Formula = f
		wrongOne(t, d, 2, e)
	}
	// What is wrong with one formula by itself comes ahead of what is wrong with its refs.
	wrongOne(t, told("x+1000001"), 0, api.ErrRange)
	wrongOne(t, told("x+"), 0, api.ErrSyntax)
	wrongOne(t, told("a+x"), 0, api.ErrNone)
	wrongOne(t, told("x+a"), 0, api.ErrNone)
}

// The least of those that need themselves is told: not one that only needs such, though it be less.
func TestCycle(t *testing.T) {
	for _, c := range []struct {
		text string
		at   int
	}{
		{"a:-1:1:a", 0},
		{"a:-1:1:0*(7+a)", 0},
		{"a:-1:1: b:-1:1:b", 1},
		{"a:-1:1:b b:-1:1:b", 1},
		{"a:-1:1:b b:-1:1:a", 0},
		{"a:-1:1:b b:-1:1:c c:-1:1:b", 1},
		{"a:-1:1:b b:-1:1:c c:-1:1:d d:-1:1:c", 2},
		{"a:-1:1:b b:-1:1:c c:-1:1:a", 0},
		{"a:-1:1:c b:-1:1:a c:-1:1:b", 0},
		{"a:-1:1:d b:-1:1:c c:-1:1:b d:-1:1:d", 1},
		{"a:-1:1:c+d b:-1:1:b c:-1:1: d:-1:1:", 1},
		{"a:-1:1: b:0:1:a", 0},
		{"a:-1:1: b:0:-1:a", 0},
		{"a:-1:1: b:0:1:b", 1},
		{"a:-1:1: b:0:1: c:1:1:a", 0},
		{"a:-1:1: b:0:1: c:1:1:b", 1},
		{"a:-1:1: b:0:0: c:1:1:b", 1},
		{"a:-1:1: b:0:1:c c:-1:1: d:2:1:a", 0},
		{"a:-1:1: b:0:1:d c:-1:1: d:2:1:c", 2},
		{"a:-1:1:b b:-1:1: c:1:1:a", 0},
		{"a:-1:1: b:-1:1: c:1:1: d:2:-1:b e:0:1:", 1},
		{"z:-1:1:y y:-1:1:x x:-1:1:y", 1},
	} {
		wrongOne(t, dim(c.text), c.at, api.ErrCycle)
	}
}

// A part that counts nothing is not needed, and so may need the whole.
func TestNoCycle(t *testing.T) {
	for _, c := range []struct {
		text  string
		needs [][]int
		order []int
	}{
		{"a:-1:1: b:0:0:a", [][]int{nil, {0}}, []int{0, 1}},
		{"a:-1:1: b:0:1: c:0:0:a*100/b", [][]int{{1}, nil, {0, 1}}, []int{1, 0, 2}},
		{"a:-1:1: b:0:0: c:1:1:a", [][]int{nil, {2}, {0}}, []int{0, 2, 1}},
		{"a:-1:1: b:0:1: c:1:0:a", [][]int{{1}, nil, {0}}, []int{1, 0, 2}},
		{"a:-1:1:b+c b:-1:1:d c:-1:1:d d:-1:1:", [][]int{{1, 2}, {3}, {3}, nil}, []int{3, 1, 2, 0}},
	} {
		rightOne(t, dim(c.text), c.needs, c.order)
	}
}

// As many as may be, each of which needs the next: down, up, and all the way round.
func TestLongest(t *testing.T) {
	names := strings.Split("abcdefghijkl", "")
	down, up, round := append(names[1:], ""), append([]string{""}, names[:11]...), append(names[1:], "a")
	var after, before [][]int
	var falling, rising []int
	for i := range 12 {
		after, before = append(after, []int{i + 1}), append(before, []int{i - 1})
		falling, rising = append(falling, 11-i), append(rising, i)
	}
	after[11], before[0] = nil, nil
	rightOne(t, told(down...), after, falling)
	rightOne(t, told(up...), before, rising)
	wrongOne(t, told(round...), 0, api.ErrCycle)
	for i := range 12 {
		back := slices.Clone(down)
		back[11] = names[i]
		wrongOne(t, told(back...), i, api.ErrCycle)
	}
	deep := told("", "", "", "", "", "", "", "", "", "", "", "")
	for i := range deep.Members {
		deep.Members[i].Parent = i - 1
	}
	rightOne(t, deep, after, falling)
	for i := range 12 {
		deep.Members[11].Formula = names[i]
		wrongOne(t, deep, i, api.ErrCycle)
	}
}

// What chapter 2 finds wrong is told as it tells it, ahead of what formulas say.
func TestWrongDims(t *testing.T) {
	with := func(i int, change func(m *api.Member)) api.Dim {
		d := told("a+", "x", "c", "")
		change(&d.Members[i])
		return d
	}
	l := []api.Dim{{}, {Name: "x"}, {Name: "X", Members: told("a").Members}, {Name: "x", Solve: 10, Members: told("a").Members}, {Name: "x", Solve: -1, Members: told("a+").Members}, told(make([]string, 13)...), {Name: "x", Members: make([]api.Member, 1_000_000)}}
	for i := range 4 {
		l = append(l,
			with(i, func(m *api.Member) { m.Name = "" }),
			with(i, func(m *api.Member) { m.Name = "abcdefghi" }),
			with(i, func(m *api.Member) { m.Parent = i }),
			with(i, func(m *api.Member) { m.Parent = math.MinInt }),
			with(i, func(m *api.Member) { m.Parent = math.MaxInt }),
			with(i, func(m *api.Member) { m.Sign = 2 }),
			with(i, func(m *api.Member) { m.Formula = strings.Repeat("a", 101) }),
			with(i, func(m *api.Member) { m.Formula = strings.Repeat(" ", 10_000_000) }))
	}
	l = append(l, with(3, func(m *api.Member) { m.Name = "a" }), with(3, func(m *api.Member) { m.Parent = 0 }), with(3, func(m *api.Member) { m.Parent = 2 }))
	for _, d := range l {
		at, err := outline.Check(d)
		if err == nil {
			t.Fatalf("%v is right", d)
		}
		e := plain.Told(err)
		checkOne(t, d, at, e)
		orderOne(t, d, nil, e)
		for _, i := range []int{0, 1, -1, 99, math.MinInt, math.MaxInt} {
			needsOne(t, d, i, nil, e)
		}
		allOne(t, api.Outline{Dims: []api.Dim{d}}, 0, at, e)
		allOne(t, api.Outline{Dims: []api.Dim{told("a+"), d}}, 1, at, e)
	}
}

func named(name string, d api.Dim) api.Dim {
	d.Name = name
	return d
}

// All of chapter 2 comes ahead, of every dim and of all together; then dim by dim.
func TestAll(t *testing.T) {
	right, wrong := told("b", ""), told("", "x", "a+")
	great := make([]string, 12)
	for _, c := range []struct {
		dims       []api.Dim
		at, member int
		e          api.Errno
	}{
		{nil, -1, -1, api.ErrNone},
		{make([]api.Dim, 5), -1, -1, api.ErrFull},
		{[]api.Dim{right}, -1, -1, api.OK},
		{[]api.Dim{right, named("y", right), named("z", right), named("w", right)}, -1, -1, api.OK},
		{[]api.Dim{wrong, right}, 1, -1, api.ErrClash},
		{[]api.Dim{wrong, {}}, 1, -1, api.ErrSyntax},
		{[]api.Dim{wrong, named("y", dim("a:-1:1: b:-1:2:"))}, 1, 1, api.ErrRange},
		{[]api.Dim{wrong, named("y", right), right}, 2, -1, api.ErrClash},
		{[]api.Dim{wrong, named("y", wrong), named("z", wrong), named("w", wrong), named("v", wrong)}, -1, -1, api.ErrFull},
		{[]api.Dim{told(append(great[:11:11], "x")...), named("y", told(great...)), named("z", told(great...)), named("w", right)}, -1, -1, api.ErrFull},
		{[]api.Dim{told(append(great[:11:11], "x")...), named("y", told(great...)), named("z", told(great...))}, 0, 11, api.ErrNone},
		{[]api.Dim{wrong, named("y", right)}, 0, 1, api.ErrNone},
		{[]api.Dim{right, named("y", wrong)}, 1, 1, api.ErrNone},
		{[]api.Dim{wrong, named("y", told("a+"))}, 0, 1, api.ErrNone},
		{[]api.Dim{told("", "", "c"), named("y", told("a+"))}, 0, 2, api.ErrCycle},
		{[]api.Dim{right, named("y", told("a+")), named("z", wrong)}, 1, 0, api.ErrSyntax},
		{[]api.Dim{right, named("y", right), named("z", right), named("w", told("b", "1000001"))}, 3, 1, api.ErrRange},
	} {
		allOne(t, api.Outline{Dims: c.dims}, c.at, c.member, c.e)
	}
}

// web is who needs whom: of each member, whether it needs each of them.
type web [][]bool

func webOf(n int) web {
	w := make(web, n)
	for i := range w {
		w[i] = make([]bool, n)
	}
	return w
}

func (w web) lists() [][]int {
	out := make([][]int, len(w))
	for i := range w {
		for k, is := range w[i] {
			if is {
				out[i] = append(out[i], k)
			}
		}
	}
	return out
}

// least that needs itself on whatever way, by going through each member in turn as one between; -1: there is none.
func (w web) least() int {
	far := webOf(len(w))
	for i := range w {
		copy(far[i], w[i])
	}
	for via := range far {
		for i := range far {
			for k := range far {
				far[i][k] = far[i][k] || far[i][via] && far[via][k]
			}
		}
	}
	for i := range far {
		if far[i][i] {
			return i
		}
	}
	return -1
}

// ordered tells whether an order has each member once, behind those that it needs, and none of which a lesser one could have been in its stead.
func (w web) ordered(order []int) bool {
	done := make([]bool, len(w))
	ready := func(i int) bool {
		for k, is := range w[i] {
			if is && !done[k] {
				return false
			}
		}
		return !done[i]
	}
	for _, i := range order {
		for k := range i {
			if ready(k) {
				return false
			}
		}
		if !ready(i) {
			return false
		}
		done[i] = true
	}
	return len(order) == len(w)
}

// holdOne asks all calls of a dim whose formulas are right, against who needs whom in it.
func holdOne(t *testing.T, d api.Dim, w web) {
	t.Helper()
	if at := w.least(); at >= 0 {
		wrongOne(t, d, at, api.ErrCycle)
	} else {
		order, _ := rules.Order(d)
		if !w.ordered(order) {
			t.Errorf("Order(%v) = %v", d, order)
		}
		rightOne(t, d, w.lists(), order)
	}
	if t.Failed() {
		t.FailNow()
	}
}

// spell a formula with these refs, in another way each turn.
func spell(names []string, turn int) string {
	text := strconv.Itoa(turn % 9)
	for i, name := range names {
		sign := "+-*/"[(turn+i)%4 : (turn+i)%4+1]
		switch (turn + i) % 3 {
		case 0:
			text = name + sign + text
		case 1:
			text = "(" + text + ")" + sign + name
		default:
			text = "(" + name + sign + name + ")-(" + text + ")"
		}
	}
	return text
}

// lay a dim, and who needs whom in it: of each member the parent, the sign, and (as bits; below 0: it has no formula) those that it refs to. It is none where a parent has a formula.
func lay(parents, signs, refs []int, turn int) (api.Dim, web, bool) {
	d, w := api.Dim{Name: "x"}, webOf(len(parents))
	for i, p := range parents {
		m := api.Member{Name: string(rune('n' - i)), Parent: p, Sign: signs[i]}
		if p >= 0 && refs[p] >= 0 {
			return d, w, false
		}
		if p >= 0 && signs[i] != 0 {
			w[p][i] = true
		}
		if refs[i] >= 0 {
			var names []string
			for k := range parents {
				if refs[i]>>k&1 != 0 {
					names = append(names, string(rune('n'-k)))
					w[i][k] = true
				}
			}
			m.Formula = spell(names, turn+i)
		}
		d.Members = append(d.Members, m)
	}
	return d, w, true
}

// Every dim of up to three members: each parent, each sign, and formulas with each of the refs that may be.
func TestEveryDim(t *testing.T) {
	turn := 0
	for n := 1; n <= 3; n++ {
		parents, signs, refs := make([]int, n), make([]int, n), make([]int, n)
		var each func(i int)
		each = func(i int) {
			if i == n {
				turn++
				if d, w, ok := lay(parents, signs, refs, turn); ok {
					holdOne(t, d, w)
				}
				return
			}
			for parents[i] = -1; parents[i] < i; parents[i]++ {
				for signs[i] = -1; signs[i] <= 1; signs[i]++ {
					for refs[i] = -1; refs[i] < 1<<n; refs[i]++ {
						each(i + 1)
					}
				}
			}
		}
		each(0)
	}
	if turn < 50_000 {
		t.Errorf("there were only %d", turn)
	}
}

// Many dims of up to twelve members, with few refs, so that not every one needs itself.
func TestManyDims(t *testing.T) {
	seed := uint64(7)
	roll := func(n int) int {
		seed = seed*6364136223846793005 + 1442695040888963407
		return int(seed >> 33 % uint64(n))
	}
	right, wrong := 0, 0
	for turn := range 20_000 {
		n := 1 + roll(12)
		parents, signs, refs := make([]int, n), make([]int, n), make([]int, n)
		for i := range n {
			parents[i], signs[i], refs[i] = roll(i+1)-1, roll(3)-1, -1
			if parents[i] >= 0 && refs[parents[i]] >= 0 {
				parents[i] = -1
			}
			if roll(3) == 0 {
				refs[i] = 1<<roll(n) | 1<<roll(n)
			}
		}
		d, w, ok := lay(parents, signs, refs, turn)
		if !ok {
			t.Fatalf("a parent has a formula: %v", d)
		}
		if w.least() < 0 {
			right++
		} else {
			wrong++
		}
		holdOne(t, d, w)
	}
	if right < 4000 || wrong < 4000 {
		t.Errorf("%d were right, %d wrong", right, wrong)
	}
}

// P2: what is handed in stays as it was, what lies behind its length is not read, and what comes out is the caller's.
func TestNothingSharedOrWritten(t *testing.T) {
	const text = "profit:-1:1: sales:0:1: costs:0:-1:sales/2 note:0:0:profit north:1:1: south:1:1:"
	needs := [][]int{{1, 2}, {4, 5}, {1}, {0}, nil, nil}
	order := []int{4, 5, 1, 2, 0, 3}
	d := dim(text)
	d.Members = append(make([]api.Member, 0, 20), d.Members...)
	behind := d.Members[:20]
	behind[6] = api.Member{Name: "behind", Parent: 0, Sign: 1, Formula: "x+"}
	dims := append(make([]api.Dim, 0, 4), d)
	dims[:2][1] = api.Dim{Name: "X"}
	o := api.Outline{Dims: dims}
	for range 2 {
		allOne(t, o, -1, -1, api.OK)
		rightOne(t, d, needs, order)
		for i := range d.Members {
			first, _ := rules.Needs(d, i)
			second, _ := rules.Needs(d, i)
			spoil(first)
			if !slices.Equal(second, needs[i]) {
				t.Errorf("two answers of Needs share memory: %v", second)
			}
		}
		first, _ := rules.Order(d)
		second, _ := rules.Order(d)
		spoil(first)
		if !slices.Equal(second, order) {
			t.Errorf("two answers of Order share memory: %v", second)
		}
	}
	if !reflect.DeepEqual(d, dim(text)) || behind[6].Formula != "x+" || behind[7] != (api.Member{}) || dims[:2][1].Name != "X" || !reflect.DeepEqual(dims[0], d) {
		t.Errorf("what was handed in was written into: %v", behind)
	}
}

func spoil(l []int) {
	l = l[:cap(l)]
	for i := range l {
		l[i] = -9
	}
}
