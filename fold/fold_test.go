package fold_test

import (
	"fmt"
	"math"
	"reflect"
	"slices"
	"strings"
	"testing"

	"tallyhall/api"
	"tallyhall/fold"
	"tallyhall/input"
	"tallyhall/outline"
	"tallyhall/place"
	"tallyhall/plain"
	"tallyhall/roll"
)

// shop is a cube of accounts and of times. Of accounts costs (2) come off the profit, rent (4) comes off the costs, the note (5) counts nothing, and the share (6) has a formula; of times summer (2) counts nothing, winter (3) comes off, and the day (4) stands beside the year.
func shop() api.Outline {
	return api.Outline{Dims: []api.Dim{
		{Name: "account", Solve: 3, Members: []api.Member{
			{Name: "profit", Parent: -1, Sign: -1},
			{Name: "sales", Parent: 0, Sign: 1},
			{Name: "costs", Parent: 0, Sign: -1},
			{Name: "wages", Parent: 2, Sign: 1},
			{Name: "rent", Parent: 2, Sign: -1},
			{Name: "note", Parent: 0, Sign: 0},
			{Name: "share", Parent: 0, Sign: 1, Formula: "sales/costs"},
		}},
		{Name: "time", Members: []api.Member{
			{Name: "year", Parent: -1, Sign: 0},
			{Name: "spring", Parent: 0, Sign: 1},
			{Name: "summer", Parent: 0, Sign: 0},
			{Name: "winter", Parent: 0, Sign: -1},
			{Name: "day", Parent: -1, Sign: -1},
		}},
	}}
}

// sized is an outline of dims with so many members each, of which the first has all the others as parts.
func sized(counts ...int) api.Outline {
	var o api.Outline
	for i, n := range counts {
		d := api.Dim{Name: string(rune('p' + i))}
		for k := range n {
			d.Members = append(d.Members, api.Member{Name: string(rune('a' + k)), Parent: min(k-1, 0), Sign: 1})
		}
		o.Dims = append(o.Dims, d)
	}
	return o
}

// row is an outline of one dim, of which the first member has a part for each sign.
func row(signs ...int) api.Outline {
	o := sized(1 + len(signs))
	for k, sign := range signs {
		o.Dims[0].Members[k+1].Sign = sign
	}
	return o
}

// cells reads them: a number, "-" for what is Empty, "#" for a Fault, blanks between.
func cells(text string) []api.Cell {
	var out []api.Cell
	for _, w := range strings.Fields(text) {
		var c api.Cell
		switch w {
		case "-":
		case "#":
			c = api.Cell{Kind: api.Fault}
		default:
			c.Kind = api.Number
			if _, err := fmt.Sscan(w, &c.N); err != nil {
				panic(err)
			}
		}
		out = append(out, c)
	}
	return out
}

func at(n int, members ...int) api.Entry { return api.Entry{At: members, N: n} }

func cellsOne(t *testing.T, o api.Outline, l []api.Entry, want []api.Cell, e api.Errno) {
	t.Helper()
	if got, err := fold.Cells(o, l); !slices.Equal(got, want) || plain.Told(err) != e {
		t.Errorf("Cells(%v, %v) = %v, %v, want %v, %v", o, l, got, err, want, e)
	}
}

func onceOne(t *testing.T, o api.Outline, l []api.Cell, dim int, want []api.Cell, e api.Errno) {
	t.Helper()
	if got, err := fold.Once(o, l, dim); !slices.Equal(got, want) || plain.Told(err) != e {
		t.Errorf("Once(%v, %v, %v) = %v, %v, want %v, %v", o, l, dim, got, err, want, e)
	}
}

func allOne(t *testing.T, o api.Outline, l []api.Entry, order []int, want []api.Cell, e api.Errno) {
	t.Helper()
	if got, err := fold.All(o, l, order); !slices.Equal(got, want) || plain.Told(err) != e {
		t.Errorf("All(%v, %v, %v) = %v, %v, want %v, %v", o, l, order, got, err, want, e)
	}
}

// written in the shop, and it cell by cell: a row of times for each account.
func written() []api.Entry {
	return []api.Entry{at(100, 1, 1), at(7, 1, 2), at(30, 1, 3), at(5, 1, 4), at(20, 3, 1), at(8, 4, 1), at(2, 4, 3), at(0, 5, 1)}
}

const (
	shopCells = `
		- - - - -
		- 100 7 30 5
		- - - - -
		- 20 - - -
		- 8 - 2 -
		- 0 - - -
		- - - - -`
	shopByAccount = `
		- 88 7 32 5
		- 100 7 30 5
		- 12 - -2 -
		- 20 - - -
		- 8 - 2 -
		- 0 - - -
		- - - - -`
	shopByTime = `
		- - - - -
		70 100 7 30 5
		- - - - -
		20 20 - - -
		6 8 - 2 -
		0 0 - - -
		- - - - -`
	shopByBoth = `
		56 88 7 32 5
		70 100 7 30 5
		14 12 - -2 -
		20 20 - - -
		6 8 - 2 -
		0 0 - - -
		- - - - -`
)

func TestCells(t *testing.T) {
	cellsOne(t, shop(), written(), cells(shopCells), api.OK)
	cellsOne(t, shop(), nil, make([]api.Cell, 35), api.OK)
	cellsOne(t, shop(), []api.Entry{}, make([]api.Cell, 35), api.OK)
	cellsOne(t, sized(1), []api.Entry{at(-3, 0)}, cells("-3"), api.OK)
	cellsOne(t, sized(2, 3), []api.Entry{at(api.MaxInput, 1, 1), at(-api.MaxInput, 1, 2)}, cells("- - - - 1000000 -1000000"), api.OK)
	cellsOne(t, sized(1, 2, 1, 2), []api.Entry{at(0, 0, 1, 0, 1)}, cells("- - - 0"), api.OK)
}

func TestOnceByEitherDim(t *testing.T) {
	onceOne(t, shop(), cells(shopCells), 0, cells(shopByAccount), api.OK)
	onceOne(t, shop(), cells(shopCells), 1, cells(shopByTime), api.OK)
	onceOne(t, shop(), cells(shopByAccount), 1, cells(shopByBoth), api.OK)
	onceOne(t, shop(), cells(shopByTime), 0, cells(shopByBoth), api.OK)
	onceOne(t, shop(), make([]api.Cell, 35), 0, make([]api.Cell, 35), api.OK)
	onceOne(t, shop(), make([]api.Cell, 35), 1, make([]api.Cell, 35), api.OK)
	// The middle one of three, with a step of its own.
	onceOne(t, sized(2, 3, 2), cells("0 0 1 2 3 4 0 0 5 6 7 8"), 1, cells("4 6 1 2 3 4 12 14 5 6 7 8"), api.OK)
	onceOne(t, sized(2, 3, 2), cells("0 0 1 2 3 4 0 0 5 6 7 8"), 0, cells("0 0 5 6 7 8 0 0 5 6 7 8"), api.OK)
	onceOne(t, sized(2, 3, 2), cells("0 0 1 2 3 4 0 0 5 6 7 8"), 2, cells("0 0 2 2 4 4 0 0 6 6 8 8"), api.OK)
}

// Whatever stands at a member with parts is gone, and nothing is as it was beside 0.
func TestSigns(t *testing.T) {
	for _, c := range []struct {
		signs     []int
		was, want string
	}{
		{[]int{1}, "9 4", "4 4"}, {[]int{-1}, "9 4", "-4 4"}, {[]int{-1}, "9 -4", "4 -4"}, {[]int{1}, "9 0", "0 0"}, {[]int{-1}, "9 0", "0 0"},
		{[]int{1}, "9 -", "- -"}, {[]int{-1}, "9 -", "- -"}, {[]int{1, -1}, "# - -", "- - -"}, {[]int{1}, "# 4", "4 4"},
		{[]int{1, 1, -1}, "- 7 5 2", "10 7 5 2"}, {[]int{-1, 1}, "- 7 5", "-2 7 5"}, {[]int{1, -1}, "- 7 7", "0 7 7"},
		{[]int{1, -1}, "- - 5", "-5 - 5"}, {[]int{1, -1}, "- 5 -", "5 5 -"}, {[]int{-1, 1}, "- - 5", "5 - 5"},
		{[]int{1}, "9 #", "# #"}, {[]int{-1}, "9 #", "# #"}, {[]int{1, -1, 1}, "9 1 # 2", "# 1 # 2"}, {[]int{1, 1}, "9 # -", "# # -"},
	} {
		onceOne(t, row(c.signs...), cells(c.was), 0, cells(c.want), api.OK)
	}
}

// What counts nothing is left out: a Number, Empty or a Fault, of others or alone.
func TestLeftOut(t *testing.T) {
	for _, c := range []struct {
		signs     []int
		was, want string
	}{
		{[]int{0}, "9 4", "- 4"}, {[]int{0}, "# 0", "- 0"}, {[]int{0}, "9 -", "- -"}, {[]int{0}, "9 #", "- #"}, {[]int{0, 0}, "9 1 2", "- 1 2"},
		{[]int{1, 0}, "9 4 5", "4 4 5"}, {[]int{0, 1}, "9 4 5", "5 4 5"}, {[]int{0, -1}, "9 4 5", "-5 4 5"}, {[]int{1, 0, 1}, "9 1 # 2", "3 1 # 2"},
		{[]int{1, 0}, "9 - 5", "- - 5"}, {[]int{1, 0}, "9 # 5", "# # 5"},
	} {
		onceOne(t, row(c.signs...), cells(c.was), 0, cells(c.want), api.OK)
	}
	// Left out, it has what comes of its own parts; and the sign of what is a part of none counts nowhere.
	o := sized(4)
	o.Dims[0].Members[2].Sign = 0
	o.Dims[0].Members[3].Parent = 2
	onceOne(t, o, cells("9 1 8 5"), 0, cells("1 1 5 5"), api.OK)
	for _, sign := range []int{-1, 0, 1} {
		o := row(1, -1)
		o.Dims[0].Members[0].Sign = sign
		onceOne(t, o, cells("9 4 1"), 0, cells("3 4 1"), api.OK)
	}
}

// Without Parts a Member stays, whatever stands there, and with a Formula too, whatever that says.
func TestWithoutParts(t *testing.T) {
	for _, text := range []string{"-", "#", "0", "7", "-1000000000000", "1000000000000"} {
		onceOne(t, sized(1), cells(text), 0, cells(text), api.OK)
		o := sized(3)
		for k := range o.Dims[0].Members {
			o.Dims[0].Members[k].Parent = -1
		}
		onceOne(t, o, cells("5 "+text+" #"), 0, cells("5 "+text+" #"), api.OK)
		for _, f := range []string{"7", "b", "a", "no formula at all", "\x00", strings.Repeat("1", 100)} {
			o.Dims[0].Members[1].Formula = f
			onceOne(t, o, cells("5 "+text+" #"), 0, cells("5 "+text+" #"), api.OK)
			// As a part it counts by what stands there.
			part := sized(2, 1)
			part.Dims[0].Members[1].Formula = f
			onceOne(t, part, cells("9 "+text), 0, cells(text+" "+text), api.OK)
			allOne(t, part, nil, []int{1, 0}, cells("- -"), api.OK)
		}
	}
}

// Parts come one after another: what goes beyond MaxValue on the way is a Fault, and stays one.
func TestPartsInOrder(t *testing.T) {
	const most = "1000000000000"
	for _, c := range []struct {
		signs     []int
		was, want string
	}{
		{[]int{1, 1, -1}, most + " 1 1", "#"}, {[]int{1, -1, 1}, most + " 1 1", most}, {[]int{1, 1}, most + " 0", most}, {[]int{1, 1}, most + " 1", "#"},
		{[]int{-1, -1, 1}, most + " 1 1", "#"}, {[]int{-1, 1, -1}, most + " 1 1", "-" + most}, {[]int{-1, 1}, most + " -1", "#"}, {[]int{-1}, "-" + most, most},
		{[]int{1, 0, 1}, most + " 1 -1", "999999999999"}, {[]int{1, 1, 1}, "1 -1 " + most, most},
	} {
		onceOne(t, row(c.signs...), cells("- "+c.was), 0, cells(c.want+" "+c.was), api.OK)
	}
}

// Parts of parts, down to twelve in a row: each is folded ahead of what it is a part of.
func TestDeepest(t *testing.T) {
	o := sized(12, 12)
	for i := range o.Dims {
		for k := range o.Dims[i].Members {
			o.Dims[i].Members[k].Parent, o.Dims[i].Members[k].Sign = k-1, -1
		}
	}
	want := make([]api.Cell, 144)
	for i := range 12 {
		for k := range 12 {
			want[12*i+k] = api.Cell{Kind: api.Number, N: 5 - 10*((i+k)%2)}
		}
	}
	allOne(t, o, []api.Entry{at(5, 11, 11)}, []int{0, 1}, want, api.OK)
	allOne(t, o, []api.Entry{at(5, 11, 11)}, []int{1, 0}, want, api.OK)
	onceOne(t, api.Outline{Dims: o.Dims[:1]}, cells("1 1 1 1 1 1 1 1 1 1 1 3"), 0, cells("-3 3 -3 3 -3 3 -3 3 -3 3 -3 3"), api.OK)
}

func TestAll(t *testing.T) {
	for _, order := range [][]int{{0, 1}, {1, 0}} {
		allOne(t, shop(), written(), order, cells(shopByBoth), api.OK)
		allOne(t, shop(), nil, order, make([]api.Cell, 35), api.OK)
	}
	allOne(t, sized(1), []api.Entry{at(4, 0)}, []int{0}, cells("4"), api.OK)
	allOne(t, row(1, -1), []api.Entry{at(4, 1), at(4, 2)}, []int{0}, cells("0 4 4"), api.OK)
	allOne(t, row(1, 0), []api.Entry{at(4, 2)}, []int{0}, cells("- - 4"), api.OK)
}

func TestOrderNamesEachDimOnce(t *testing.T) {
	for _, order := range [][]int{
		nil, {}, {0}, {1}, {0, 0}, {1, 1}, {0, 2}, {2, 0}, {-1, 0}, {0, -1}, {1, 2}, {0, 1, 0}, {0, 1, 1}, {0, 1, 2}, {1, 0, -1}, {0, 0, 1}, {0, 1, 0, 1},
		{0, math.MaxInt}, {math.MinInt, 1}, make([]int, 1000),
	} {
		allOne(t, shop(), written(), order, nil, api.ErrShape)
		allOne(t, shop(), nil, order, nil, api.ErrShape)
	}
	for _, order := range [][]int{nil, {1}, {-1}, {0, 0}, {0, 1}} {
		allOne(t, sized(2), []api.Entry{at(4, 1)}, order, nil, api.ErrShape)
	}
	for _, order := range [][]int{{0, 1, 2}, {0, 1, 2, 2}, {3, 3, 0, 1}, {1, 2, 3, 4}, {0, 1, 2, 3, 3}} {
		allOne(t, sized(2, 2, 2, 2), nil, order, nil, api.ErrShape)
	}
}

func TestNoSuchDim(t *testing.T) {
	for _, dim := range []int{-1, 2, 3, 4, math.MinInt, math.MaxInt} {
		onceOne(t, shop(), cells(shopCells), dim, nil, api.ErrRange)
	}
	onceOne(t, sized(2), cells("1 2"), 1, nil, api.ErrRange)
	onceOne(t, sized(1, 1, 1, 1), cells("1"), 4, nil, api.ErrRange)
	onceOne(t, sized(1, 1, 1, 1), cells("1"), 3, cells("1"), api.OK)
}

// wrongCells are none at all.
func wrongCells() []api.Cell {
	return []api.Cell{{Kind: 3}, {Kind: -1}, {Kind: math.MaxInt}, {Kind: api.Empty, N: 1}, {Kind: api.Fault, N: -1}, {Kind: api.Number, N: api.MaxValue + 1}, {Kind: api.Number, N: math.MinInt}}
}

// A cell that is none is told wherever it stands: where it would be folded over, left out, or stay.
func TestWrongCells(t *testing.T) {
	for _, wrong := range wrongCells() {
		for n := range 35 {
			l := cells(shopCells)
			l[n] = wrong
			for _, dim := range []int{0, 1} {
				onceOne(t, shop(), l, dim, nil, api.ErrRange)
			}
		}
	}
}

// Not as many cells as places comes ahead of what they are, and of the dim.
func TestAsManyCells(t *testing.T) {
	for _, dim := range []int{0, 1, -1, 2, math.MaxInt} {
		for _, n := range []int{0, 1, 12, 34, 36, 70, 5000} {
			l := make([]api.Cell, n)
			onceOne(t, shop(), l, dim, nil, api.ErrShape)
			for _, wrong := range wrongCells() {
				onceOne(t, shop(), append(l, wrong, wrong), dim, nil, api.ErrShape)
			}
		}
		onceOne(t, shop(), nil, dim, nil, api.ErrShape)
	}
}

// The entries come ahead of the order, and each as chapter 5 tells it.
func TestEntriesFirst(t *testing.T) {
	o := shop()
	for _, l := range [][]api.Entry{
		{at(1, 1)}, {at(1)}, {at(1, 1, 1, 1)}, {at(1, 1, 9)}, {at(1, -1, 1)}, {at(1, 0, 1)}, {at(1, 1, 0)}, {at(1, 6, 1)},
		{at(1_000_001, 1, 1)}, {at(math.MinInt, 1, 1)}, {at(1, 1, 1), at(1, 1, 1)}, {at(1, 3, 1), at(1, 1, 1)},
		{at(1, 1, 1), at(1, 0, 1), at(1, 9, 9)}, {at(1, 1, 2), at(1, 1, 1), at(1, 1)},
	} {
		e := plain.Told(input.Check(o, l))
		if e == api.OK {
			t.Fatalf("%v is right", l)
		}
		cellsOne(t, o, l, nil, e)
		for _, order := range [][]int{{0, 1}, {1, 0}, nil, {0}, {0, 0}, {0, 1, 2}, {-1, 7}} {
			allOne(t, o, l, order, nil, e)
		}
	}
}

// The outline comes first of all, as chapter 2 tells it, whatever else is wrong.
func TestOutlineFirst(t *testing.T) {
	with := func(change func(o *api.Outline)) api.Outline {
		o := shop()
		change(&o)
		return o
	}
	for _, o := range []api.Outline{
		{}, {Dims: []api.Dim{}}, {Dims: make([]api.Dim, 1)}, {Dims: make([]api.Dim, 5)},
		sized(0), sized(3, 0), sized(13), sized(3, 13), sized(1, 1, 1, 1, 1), sized(12, 12, 12, 2),
		with(func(o *api.Outline) { o.Dims[1].Name = "account" }),
		with(func(o *api.Outline) { o.Dims[1].Solve = 10 }),
		with(func(o *api.Outline) { o.Dims[1].Members[2].Name = "spring" }),
		with(func(o *api.Outline) { o.Dims[0].Members[1].Parent = 1 }),
		with(func(o *api.Outline) { o.Dims[0].Members[0].Parent = 1 }),
		with(func(o *api.Outline) { o.Dims[1].Members[1].Sign = 2 }),
		with(func(o *api.Outline) { o.Dims[0].Members[0].Formula = "7" }),
		with(func(o *api.Outline) { o.Dims[1].Members[4].Formula = strings.Repeat("a", 101) }),
	} {
		_, _, err := outline.All(o)
		e := plain.Told(err)
		if e == api.OK {
			t.Fatalf("%v is right", o)
		}
		for _, l := range [][]api.Entry{nil, {at(1, 1, 1)}, {at(1, 0)}, {at(math.MaxInt, 1, 1)}, {{}}} {
			cellsOne(t, o, l, nil, e)
			for _, order := range [][]int{nil, {0}, {0, 1}, {1, 1}, {0, 1, 2, 3, 4}} {
				allOne(t, o, l, order, nil, e)
			}
		}
		for _, l := range [][]api.Cell{nil, wrongCells(), cells("1"), cells(shopCells), make([]api.Cell, 39), make([]api.Cell, 3456)} {
			for _, dim := range []int{0, 1, -1, 9} {
				onceOne(t, o, l, dim, nil, e)
			}
		}
	}
}

// turner gives numbers one after another, the same ones each time.
func turner(seed uint32) func(below int) int {
	return func(below int) int {
		seed = seed*1664525 + 1013904223
		return int(seed>>16) % below
	}
}

// anyOutline has dims of few members, with whatever parents, signs and formulas may be.
func anyOutline(next func(below int) int) api.Outline {
	var o api.Outline
	for i := range 1 + next(4) {
		d := api.Dim{Name: string(rune('p' + i)), Solve: next(10)}
		for k := range 1 + next(5) {
			m := api.Member{Name: string(rune('a' + k)), Parent: next(k+1) - 1, Sign: []int{1, -1, 0, 1, -1, 1}[next(6)]}
			if m.Parent >= 0 && d.Members[m.Parent].Formula != "" {
				m.Parent = -1
			}
			if next(8) == 0 {
				m.Formula = "1+1"
			}
			d.Members = append(d.Members, m)
		}
		o.Dims = append(o.Dims, d)
	}
	return o
}

// anyCell is of each kind, and a Number often so great that two of them are beyond MaxValue.
func anyCell(next func(below int) int) api.Cell {
	switch next(8) {
	case 0, 1, 2:
		return api.Cell{}
	case 3:
		return api.Cell{Kind: api.Fault}
	case 4:
		return api.Cell{Kind: api.Number, N: (1 - 2*next(2)) * (api.MaxValue - next(2))}
	}
	return api.Cell{Kind: api.Number, N: next(7) - 3}
}

// expectSum is worked out by the kinds, without package cell.
func expectSum(a, b api.Cell, sign int) api.Cell {
	n := a.N + sign*b.N
	switch {
	case a.Kind == api.Fault || b.Kind == api.Fault, n > api.MaxValue, n < -api.MaxValue:
		return api.Cell{Kind: api.Fault}
	case a.Kind == api.Empty && b.Kind == api.Empty:
		return api.Cell{}
	}
	return api.Cell{Kind: api.Number, N: n}
}

// expectOnce goes from a place down, part by part, in one dim, with places found by their members rather than by steps.
func expectOnce(t *testing.T, o api.Outline, l []api.Cell, dim int, p api.Place) api.Cell {
	t.Helper()
	sum, parts := api.Cell{}, 0
	for k, m := range o.Dims[dim].Members {
		if m.Parent != p[dim] {
			continue
		}
		parts++
		if m.Sign == 0 {
			continue
		}
		part := slices.Clone(p)
		part[dim] = k
		sum = expectSum(sum, expectOnce(t, o, l, dim, part), m.Sign)
	}
	if parts > 0 {
		return sum
	}
	n, err := place.Number(o, p)
	if err != nil {
		t.Fatal(err)
	}
	return l[n]
}

// places of an outline, in order.
func places(t *testing.T, o api.Outline) []api.Place {
	t.Helper()
	count, err := place.Cells(o)
	if err != nil {
		t.Fatalf("%v is wrong: %v", o, err)
	}
	out := make([]api.Place, count)
	for n := range out {
		out[n], _ = place.Of(o, n)
	}
	return out
}

func TestOnceOfManyCubes(t *testing.T) {
	next := turner(7)
	var changed [3]int
	for range 300 {
		o := anyOutline(next)
		all := places(t, o)
		l := make([]api.Cell, len(all))
		for n := range l {
			l[n] = anyCell(next)
		}
		for dim := range o.Dims {
			want := make([]api.Cell, len(all))
			for n, p := range all {
				want[n] = expectOnce(t, o, l, dim, p)
				if want[n] != l[n] {
					changed[want[n].Kind]++
				}
			}
			onceOne(t, o, l, dim, want, api.OK)
			// Folded again by the same dim, nothing changes.
			onceOne(t, o, want, dim, want, api.OK)
		}
		if t.Failed() {
			t.FailNow()
		}
	}
	if slices.Min(changed[:]) < 100 {
		t.Errorf("too few of a kind: %v", changed)
	}
}

// orders of so many dims, all of them.
func orders(n int) [][]int {
	out := [][]int{{}}
	for i := range n {
		var longer [][]int
		for _, order := range out {
			for k := range len(order) + 1 {
				longer = append(longer, slices.Insert(slices.Clone(order), k, i))
			}
		}
		out = longer
	}
	return out
}

// Cells are what Get tells; and whichever dim comes first, all parts come to the same, which is what all parts together come to.
func TestAllOfManyCubes(t *testing.T) {
	next := turner(11)
	var kinds [3]int
	for range 200 {
		o := anyOutline(next)
		all := places(t, o)
		var l []api.Entry
		for _, p := range all {
			if is, _ := place.Leaf(o, p); is && next(3) > 0 {
				l = append(l, api.Entry{At: p, N: next(7) - 3})
			}
		}
		single, want := make([]api.Cell, len(all)), make([]api.Cell, len(all))
		for n, p := range all {
			var err error
			if single[n], err = input.Get(o, l, p); err != nil {
				t.Fatal(err)
			}
			if want[n], err = roll.Value(o, l, p); err != nil {
				t.Fatal(err)
			}
			if want[n] != single[n] {
				kinds[want[n].Kind]++
			}
		}
		cellsOne(t, o, l, single, api.OK)
		for _, order := range orders(len(o.Dims)) {
			allOne(t, o, l, order, want, api.OK)
		}
		if t.Failed() {
			t.FailNow()
		}
	}
	if kinds[api.Number] < 500 || kinds[api.Fault] > 0 {
		t.Errorf("kinds of what was folded: %v", kinds)
	}
}

// The greatest cube: every leaf written with as much as may be, either way.
func TestFullCube(t *testing.T) {
	o := sized(12, 5, 10, 5)
	all := places(t, o)
	for _, n := range []int{api.MaxInput, -api.MaxInput} {
		var l []api.Entry
		want := make([]api.Cell, len(all))
		for k, p := range all {
			leafs := 1
			for i, m := range p {
				if m == 0 {
					leafs *= len(o.Dims[i].Members) - 1
				}
			}
			want[k] = api.Cell{Kind: api.Number, N: leafs * n}
			if !slices.Contains(p, 0) {
				l = append(l, api.Entry{At: p, N: n})
			}
		}
		for _, order := range [][]int{{0, 1, 2, 3}, {3, 2, 1, 0}, {2, 0, 3, 1}} {
			allOne(t, o, l, order, want, api.OK)
		}
	}
	short := make([]api.Cell, 2999)
	onceOne(t, o, short, 0, nil, api.ErrShape)
	onceOne(t, o, append(short, api.Cell{Kind: api.Empty, N: 1}), 4, nil, api.ErrRange)
}

// spoil writes over an answer, up to its capacity.
func spoil(l []api.Cell) {
	l = l[:cap(l)]
	for i := range l {
		l[i] = api.Cell{Kind: 66, N: 66}
	}
}

// P2: what is handed in stays as it was, what lies behind its length is not read, and what comes out is the caller's.
func TestNothingSharedOrWritten(t *testing.T) {
	o := shop()
	for i := range o.Dims {
		members := o.Dims[i].Members
		o.Dims[i].Members = append(make([]api.Member, 0, 20), members...)
		o.Dims[i].Members[:20][len(members)] = api.Member{Name: "behind", Parent: 0, Sign: 1}
	}
	l := append(make([]api.Entry, 0, 20), written()...)
	l[:20][len(l)] = at(1_000, 5, 2)
	c := append(make([]api.Cell, 0, 99), cells(shopCells)...)
	c[:99][len(c)] = api.Cell{Kind: 66}
	order := append(make([]int, 0, 9), 1, 0)
	order[:9][2] = 7
	was := fmt.Sprint(o, l[:20], c[:99], order[:9])
	calls := []struct {
		call func() ([]api.Cell, error)
		want string
	}{
		{func() ([]api.Cell, error) { return fold.Cells(o, l) }, shopCells},
		{func() ([]api.Cell, error) { return fold.Once(o, c, 0) }, shopByAccount},
		{func() ([]api.Cell, error) { return fold.Once(o, c, 1) }, shopByTime},
		{func() ([]api.Cell, error) { return fold.All(o, l, order) }, shopByBoth},
	}
	for range 2 {
		for i, one := range calls {
			got, err := one.call()
			if !slices.Equal(got, cells(one.want)) || err != nil {
				t.Errorf("call %d: %v, %v, want %s", i, got, err, one.want)
			}
			spoil(got)
		}
	}
	// Where nothing is folded, the answer is fresh all the same.
	same := cells("7")
	got, _ := fold.Once(sized(1), same, 0)
	spoil(got)
	if !slices.Equal(same, cells("7")) {
		t.Errorf("the answer shares memory with what was handed in: %v", same)
	}
	if now := fmt.Sprint(o, l[:20], c[:99], order[:9]); now != was {
		t.Errorf("what was handed in was written into: %s, was %s", now, was)
	}
	for i := range o.Dims {
		o.Dims[i].Members = slices.Clone(o.Dims[i].Members)
	}
	if !reflect.DeepEqual(o, shop()) {
		t.Errorf("the outline was written into: %v", o)
	}
}
