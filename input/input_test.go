package input_test

import (
	"fmt"
	"math"
	"reflect"
	"slices"
	"strings"
	"testing"

	"tallyhall/api"
	"tallyhall/input"
	"tallyhall/outline"
	"tallyhall/place"
	"tallyhall/plain"
)

// shop is a cube of accounts (profit of sales less costs, and a share by formula) and of times (a year of three parts, and a day beside it). Leafs are the members 1 and 2 of the first dim, and 1 to 4 of the second one.
func shop() api.Outline {
	return api.Outline{Dims: []api.Dim{
		{Name: "account", Solve: 3, Members: []api.Member{
			{Name: "profit", Parent: -1, Sign: 1},
			{Name: "sales", Parent: 0, Sign: 1},
			{Name: "costs", Parent: 0, Sign: -1},
			{Name: "share", Parent: -1, Sign: 0, Formula: "sales/costs"},
		}},
		{Name: "time", Members: []api.Member{
			{Name: "year", Parent: -1, Sign: 1},
			{Name: "spring", Parent: 0, Sign: 1},
			{Name: "summer", Parent: 0, Sign: 0},
			{Name: "winter", Parent: 0, Sign: -1},
			{Name: "day", Parent: -1, Sign: 1},
		}},
	}}
}

// sized is an outline of dims of leafs, with so many members each.
func sized(counts ...int) api.Outline {
	var o api.Outline
	for i, n := range counts {
		d := api.Dim{Name: string(rune('p' + i))}
		for k := 0; k < n; k++ {
			d.Members = append(d.Members, api.Member{Name: string(rune('a' + k)), Parent: -1, Sign: 1})
		}
		o.Dims = append(o.Dims, d)
	}
	return o
}

func at(n int, members ...int) api.Entry  { return api.Entry{At: members, N: n} }
func put(n int, members ...int) api.Edit  { return api.Edit{At: members, N: n} }
func drop(n int, members ...int) api.Edit { return api.Edit{At: members, N: n, Clear: true} }

// same, where an empty list and nil are the same.
func same(a, b []api.Entry) bool {
	return slices.EqualFunc(a, b, func(x, y api.Entry) bool { return slices.Equal(x.At, y.At) && x.N == y.N })
}

func checkOne(t *testing.T, o api.Outline, l []api.Entry, e api.Errno) {
	t.Helper()
	if err := input.Check(o, l); plain.Told(err) != e {
		t.Errorf("Check(%v, %v) = %v, want %v", o, l, err, e)
	}
}

func getOne(t *testing.T, o api.Outline, l []api.Entry, p api.Place, want api.Cell, e api.Errno) {
	t.Helper()
	if got, err := input.Get(o, l, p); got != want || plain.Told(err) != e {
		t.Errorf("Get(%v, %v, %v) = %v, %v, want %v, %v", o, l, p, got, err, want, e)
	}
}

func setOne(t *testing.T, o api.Outline, l []api.Entry, p api.Place, n int, want []api.Entry, e api.Errno) {
	t.Helper()
	if got, err := input.Set(o, l, p, n); !same(got, want) || plain.Told(err) != e {
		t.Errorf("Set(%v, %v, %v, %d) = %v, %v, want %v, %v", o, l, p, n, got, err, want, e)
	}
}

func clearOne(t *testing.T, o api.Outline, l []api.Entry, p api.Place, want []api.Entry, e api.Errno) {
	t.Helper()
	if got, err := input.Clear(o, l, p); !same(got, want) || plain.Told(err) != e {
		t.Errorf("Clear(%v, %v, %v) = %v, %v, want %v, %v", o, l, p, got, err, want, e)
	}
}

func allOne(t *testing.T, o api.Outline, l []api.Entry, edits []api.Edit, want []api.Entry, n int, e api.Errno) {
	t.Helper()
	if got, i, err := input.All(o, l, edits); !same(got, want) || i != n || plain.Told(err) != e {
		t.Errorf("All(%v, %v, %v) = %v, %d, %v, want %v, %d, %v", o, l, edits, got, i, err, want, n, e)
	}
}

// refuses: every call that is given these entries tells the error, whatever else is wrong.
func refuses(t *testing.T, o api.Outline, l []api.Entry, e api.Errno) {
	t.Helper()
	checkOne(t, o, l, e)
	for _, p := range []api.Place{{1, 1}, {0, 0}, {1, -1}, {1}, nil, {1, 1, 1}, {math.MaxInt, math.MinInt}} {
		getOne(t, o, l, p, api.Cell{}, e)
		clearOne(t, o, l, p, nil, e)
		for _, n := range []int{0, 7, api.MaxInput + 1, math.MinInt} {
			setOne(t, o, l, p, n, nil, e)
			allOne(t, o, l, []api.Edit{put(3, 1, 1), {At: p, N: n}}, nil, 0, e)
		}
		allOne(t, o, l, []api.Edit{put(3, 1, 1), {At: p, Clear: true}}, nil, 0, e)
	}
	allOne(t, o, l, nil, nil, 0, e)
	allOne(t, o, l, make([]api.Edit, api.MaxEdits+1), nil, 0, api.ErrFull)
}

func TestShop(t *testing.T) {
	o := shop()
	l := []api.Entry{at(10, 1, 1), at(0, 1, 3), at(-5, 2, 1)}
	checkOne(t, o, l, api.OK)
	getOne(t, o, l, api.Place{1, 1}, api.Cell{Kind: api.Number, N: 10}, api.OK)
	getOne(t, o, l, api.Place{1, 2}, api.Cell{}, api.OK)
	getOne(t, o, l, api.Place{1, 3}, api.Cell{Kind: api.Number, N: 0}, api.OK)
	getOne(t, o, l, api.Place{2, 1}, api.Cell{Kind: api.Number, N: -5}, api.OK)
	getOne(t, o, l, api.Place{0, 0}, api.Cell{}, api.OK)
	setOne(t, o, l, api.Place{1, 3}, 8, []api.Entry{at(10, 1, 1), at(8, 1, 3), at(-5, 2, 1)}, api.OK)
	setOne(t, o, l, api.Place{1, 2}, 0, []api.Entry{at(10, 1, 1), at(0, 1, 2), at(0, 1, 3), at(-5, 2, 1)}, api.OK)
	setOne(t, o, l, api.Place{2, 4}, 6, []api.Entry{at(10, 1, 1), at(0, 1, 3), at(-5, 2, 1), at(6, 2, 4)}, api.OK)
	setOne(t, o, l[1:], api.Place{1, 1}, 6, []api.Entry{at(6, 1, 1), at(0, 1, 3), at(-5, 2, 1)}, api.OK)
	clearOne(t, o, l, api.Place{1, 3}, []api.Entry{at(10, 1, 1), at(-5, 2, 1)}, api.OK)
	clearOne(t, o, l, api.Place{1, 2}, nil, api.ErrNone)
	allOne(t, o, l, []api.Edit{put(4, 2, 1), drop(0, 1, 1), put(3, 1, 4)}, []api.Entry{at(0, 1, 3), at(3, 1, 4), at(4, 2, 1)}, 0, api.OK)
}

func TestNothingWritten(t *testing.T) {
	for _, l := range [][]api.Entry{nil, {}} {
		checkOne(t, shop(), l, api.OK)
		getOne(t, shop(), l, api.Place{1, 1}, api.Cell{}, api.OK)
		setOne(t, shop(), l, api.Place{1, 1}, 5, []api.Entry{at(5, 1, 1)}, api.OK)
		clearOne(t, shop(), l, api.Place{1, 1}, nil, api.ErrNone)
		allOne(t, shop(), l, nil, nil, 0, api.OK)
		allOne(t, shop(), l, []api.Edit{}, nil, 0, api.OK)
		allOne(t, shop(), l, []api.Edit{put(5, 1, 1), drop(0, 1, 1)}, nil, 0, api.OK)
	}
}

// What may be written, and cleared, is a leaf's; what may be asked is any place: nothing is written at others.
func TestEveryPlace(t *testing.T) {
	o := shop()
	full := []api.Entry{at(1, 1, 1), at(2, 1, 2), at(3, 1, 3), at(4, 1, 4), at(5, 2, 1), at(6, 2, 2), at(7, 2, 3), at(8, 2, 4)}
	checkOne(t, o, full, api.OK)
	for i := range 4 {
		for k := range 5 {
			p := api.Place{i, k}
			j := slices.IndexFunc(full, func(e api.Entry) bool { return slices.Equal(e.At, p) })
			if j < 0 {
				checkOne(t, o, []api.Entry{{At: p, N: 1}}, api.ErrState)
				getOne(t, o, full, p, api.Cell{}, api.OK)
				setOne(t, o, full, p, 1, nil, api.ErrState)
				clearOne(t, o, full, p, nil, api.ErrNone)
				allOne(t, o, full, []api.Edit{{At: p, N: 1}}, nil, 0, api.ErrState)
				allOne(t, o, full, []api.Edit{{At: p, N: 1, Clear: true}}, nil, 0, api.ErrNone)
				continue
			}
			changed := slices.Clone(full)
			changed[j].N = 99
			rest := slices.Delete(slices.Clone(full), j, j+1)
			getOne(t, o, full, p, api.Cell{Kind: api.Number, N: full[j].N}, api.OK)
			getOne(t, o, rest, p, api.Cell{}, api.OK)
			setOne(t, o, full, p, 99, changed, api.OK)
			setOne(t, o, rest, p, full[j].N, full, api.OK)
			clearOne(t, o, full, p, rest, api.OK)
			clearOne(t, o, rest, p, nil, api.ErrNone)
			allOne(t, o, full, []api.Edit{{At: p, N: 99}}, changed, 0, api.OK)
			allOne(t, o, rest, []api.Edit{{At: p, N: 1, Clear: true}}, nil, 0, api.ErrNone)
		}
	}
}

func TestNumbers(t *testing.T) {
	o := shop()
	for _, n := range []int{0, 1, -1, 999_999, -999_999, 1_000_000, -1_000_000} {
		l := []api.Entry{at(n, 1, 1)}
		checkOne(t, o, l, api.OK)
		getOne(t, o, l, api.Place{1, 1}, api.Cell{Kind: api.Number, N: n}, api.OK)
		setOne(t, o, nil, api.Place{1, 1}, n, l, api.OK)
		setOne(t, o, []api.Entry{at(5, 1, 1)}, api.Place{1, 1}, n, l, api.OK)
		allOne(t, o, nil, []api.Edit{put(n, 1, 1)}, l, 0, api.OK)
	}
	for _, n := range []int{1_000_001, -1_000_001, 1_000_000_000_000, 1 << 32, -1 << 32, math.MaxInt, math.MinInt} {
		refuses(t, o, []api.Entry{at(n, 1, 1)}, api.ErrRange)
		refuses(t, o, []api.Entry{at(1, 1, 1), at(n, 2, 1)}, api.ErrRange)
		setOne(t, o, nil, api.Place{1, 1}, n, nil, api.ErrRange)
		setOne(t, o, []api.Entry{at(5, 1, 1)}, api.Place{1, 1}, n, nil, api.ErrRange)
		allOne(t, o, nil, []api.Edit{put(1, 1, 1), put(n, 1, 2)}, nil, 1, api.ErrRange)
		// What a Clear has as its number does not matter.
		allOne(t, o, []api.Entry{at(5, 1, 1)}, []api.Edit{drop(n, 1, 1)}, nil, 0, api.OK)
	}
}

// Entries that are wrong by one thing alone.
func TestWrongEntries(t *testing.T) {
	o := shop()
	for _, p := range []api.Place{nil, {}, {1}, {1, 1, 1}, {1, 1, 0, 0, 0}, make(api.Place, 1000)} {
		refuses(t, o, []api.Entry{{At: p, N: 1}}, api.ErrShape)
		refuses(t, o, []api.Entry{at(1, 1, 1), {At: p, N: 1}}, api.ErrShape)
	}
	for _, p := range []api.Place{{-1, 1}, {1, -1}, {4, 1}, {1, 5}, {math.MinInt, 1}, {1, math.MaxInt}} {
		refuses(t, o, []api.Entry{{At: p, N: 1}}, api.ErrRange)
		refuses(t, o, []api.Entry{at(1, 1, 1), {At: p, N: 1}}, api.ErrRange)
	}
	for _, p := range []api.Place{{0, 0}, {0, 1}, {1, 0}, {3, 1}, {3, 0}} {
		refuses(t, o, []api.Entry{{At: p, N: 1}}, api.ErrState)
		refuses(t, o, []api.Entry{at(1, 1, 1), {At: p, N: 1}, at(1, 2, 4)}, api.ErrState)
	}
	for _, l := range [][]api.Entry{
		{at(1, 1, 1), at(1, 1, 1)}, {at(1, 1, 1), at(2, 1, 1)}, {at(1, 1, 2), at(1, 1, 1)}, {at(1, 2, 1), at(1, 1, 1)}, {at(1, 2, 1), at(1, 1, 2)},
		{at(1, 1, 1), at(1, 1, 2), at(1, 1, 1)}, {at(1, 1, 1), at(1, 2, 1), at(1, 2, 1)}, {at(1, 1, 1), at(1, 2, 4), at(1, 1, 4), at(1, 2, 4)},
	} {
		refuses(t, o, l, api.ErrClash)
	}
}

// Of one entry: its place, whether it is a leaf, its number, and whether it rises. Of several: the first that has a fault.
func TestFirstFault(t *testing.T) {
	o := shop()
	right := at(1, 1, 2)
	faults := []struct {
		e    api.Entry
		want api.Errno
	}{
		{at(1_000_001, 1), api.ErrShape}, {at(1, 9), api.ErrShape}, {at(1_000_001, -1, 1), api.ErrRange}, {at(1_000_001, 0, 9), api.ErrRange},
		{at(1, 0, 9), api.ErrRange}, {at(1_000_001, 0, 0), api.ErrState}, {at(1, 0, 0), api.ErrState}, {at(-1_000_001, 3, 4), api.ErrState},
		{at(1_000_001, 1, 1), api.ErrRange}, {at(1_000_001, 1, 2), api.ErrRange}, {at(1, 1, 1), api.ErrClash}, {at(1, 1, 2), api.ErrClash},
	}
	for _, first := range faults {
		refuses(t, o, []api.Entry{right, first.e}, first.want)
		for _, second := range faults {
			refuses(t, o, []api.Entry{right, first.e, second.e}, first.want)
			refuses(t, o, []api.Entry{right, first.e, at(1, 2, 2), second.e}, first.want)
			refuses(t, o, []api.Entry{right, at(1, 1, 3), first.e, second.e}, first.want)
		}
	}
}

// Places and numbers that are asked for are told behind the entries, the place first, then whether it is a leaf, then the number.
func TestWrongPlace(t *testing.T) {
	o, l := shop(), []api.Entry{at(1, 1, 1), at(2, 2, 2)}
	refused := func(p api.Place, e, set, cleared api.Errno, numbers ...int) {
		t.Helper()
		getOne(t, o, l, p, api.Cell{}, e)
		clearOne(t, o, l, p, nil, cleared)
		allOne(t, o, l, []api.Edit{put(3, 1, 2), {At: p, N: numbers[0], Clear: true}}, nil, 1, cleared)
		for _, n := range numbers {
			setOne(t, o, l, p, n, nil, set)
			allOne(t, o, l, []api.Edit{put(3, 1, 2), {At: p, N: n}}, nil, 1, set)
		}
	}
	for _, p := range []api.Place{nil, {}, {1}, {9}, {1, 1, 1}, {-1, -1, -1}, {2, 2, 2, 2}} {
		refused(p, api.ErrShape, api.ErrShape, api.ErrShape, 1, 1_000_001, math.MinInt)
	}
	for _, p := range []api.Place{{-1, 1}, {1, -1}, {4, 1}, {1, 5}, {0, 5}, {math.MaxInt, 0}, {0, math.MinInt}} {
		refused(p, api.ErrRange, api.ErrRange, api.ErrRange, 1, 1_000_001, math.MinInt)
	}
	for _, p := range []api.Place{{0, 0}, {0, 1}, {1, 0}, {3, 1}, {3, 0}} {
		refused(p, api.OK, api.ErrState, api.ErrNone, 1, 1_000_001, math.MinInt)
	}
	for _, p := range []api.Place{{1, 4}, {2, 1}} {
		refused(p, api.OK, api.ErrRange, api.ErrNone, 1_000_001, math.MinInt)
	}
}

// The outline comes first, as chapter 2 tells it: also where there is no entry, and no edit.
func TestOutlineFirst(t *testing.T) {
	with := func(change func(o *api.Outline)) api.Outline {
		o := shop()
		change(&o)
		return o
	}
	for _, o := range []api.Outline{
		{}, {Dims: []api.Dim{}}, {Dims: make([]api.Dim, 1)}, {Dims: make([]api.Dim, 5)},
		sized(0), sized(3, 0), sized(13), sized(3, 13), sized(1, 1, 1, 1, 1), sized(12, 12, 12, 2),
		with(func(o *api.Outline) { o.Dims[1].Name = "account" }),
		with(func(o *api.Outline) { o.Dims[0].Name = "" }),
		with(func(o *api.Outline) { o.Dims[1].Solve = 10 }),
		with(func(o *api.Outline) { o.Dims[1].Members[2].Name = "spring" }),
		with(func(o *api.Outline) { o.Dims[0].Members[1].Parent = 1 }),
		with(func(o *api.Outline) { o.Dims[1].Members[1].Sign = 2 }),
		with(func(o *api.Outline) { o.Dims[0].Members[0].Formula = "7" }),
		with(func(o *api.Outline) { o.Dims[1].Members[4].Formula = strings.Repeat("a", 101) }),
	} {
		_, _, err := outline.All(o)
		e := plain.Told(err)
		if e == api.OK {
			t.Fatalf("%v is right", o)
		}
		for _, l := range [][]api.Entry{
			nil, {}, {at(1, 1, 1)}, {at(1, 1, 1), at(2, 2, 2)}, {at(1, 1)}, {at(1, 0, 0)}, {at(math.MaxInt, 1, 1)}, {at(1, -1, 9)}, {at(1, 1, 1), at(1, 1, 1)}, {{}},
		} {
			refuses(t, o, l, e)
		}
	}
}

// There may be MaxEdits, of whatever kind; one more are too many ahead of all else.
func TestHowManyEdits(t *testing.T) {
	if api.MaxEdits != 60 {
		t.Fatal("the bound is another one")
	}
	o := sized(12, 12)
	var edits []api.Edit
	var want []api.Entry
	for n := range 60 {
		edits = append(edits, put(n, (59-n)/12, (59-n)%12))
		want = append(want, at(59-n, n/12, n%12))
	}
	allOne(t, o, nil, edits, want, 0, api.OK)
	allOne(t, o, nil, edits[:59], want[1:], 0, api.OK)
	allOne(t, o, nil, append(slices.Clone(edits), put(1, 0, 0)), nil, 0, api.ErrFull)
	allOne(t, o, []api.Entry{at(1, 0, 0)}, append(slices.Clone(edits), put(1, 0, 0)), nil, 0, api.ErrFull)
	allOne(t, o, nil, append([]api.Edit{put(1)}, edits...), nil, 0, api.ErrFull)
	allOne(t, o, nil, make([]api.Edit, 61), nil, 0, api.ErrFull)
	allOne(t, o, nil, make([]api.Edit, 100_000), nil, 0, api.ErrFull)
	allOne(t, o, nil, make([]api.Edit, 60), nil, 0, api.ErrShape)
	allOne(t, api.Outline{}, []api.Entry{{}}, make([]api.Edit, 61), nil, 0, api.ErrFull)
	allOne(t, o, []api.Entry{at(1, 3, 3), at(1, 2, 2)}, make([]api.Edit, 61), nil, 0, api.ErrFull)
	var over []api.Edit
	for n := range 30 {
		over = append(over, put(n, 3, 3), drop(n, 3, 3))
	}
	allOne(t, o, want[:1], over, want[:1], 0, api.OK)
	allOne(t, o, want[:1], over[:59], append(slices.Clone(want[:1]), at(29, 3, 3)), 0, api.OK)
}

// With an error comes the number of the first edit that is wrong as things stand then, and no entries.
func TestWhichEdit(t *testing.T) {
	o, l := shop(), []api.Entry{at(1, 1, 1)}
	for _, c := range []struct {
		edits []api.Edit
		n     int
		e     api.Errno
	}{
		{[]api.Edit{drop(0, 1, 2)}, 0, api.ErrNone},
		{[]api.Edit{drop(0, 1, 1), drop(0, 1, 1)}, 1, api.ErrNone},
		{[]api.Edit{drop(0, 1, 2), put(5, 1, 2)}, 0, api.ErrNone},
		{[]api.Edit{put(5, 1, 2), drop(0, 1, 2), drop(0, 1, 2)}, 2, api.ErrNone},
		{[]api.Edit{put(5, 1, 2), put(6, 1, 2), put(7, 0, 2), drop(0, 1, 1)}, 2, api.ErrState},
		{[]api.Edit{put(5, 1, 2), put(1_000_001, 1, 2), put(7, 0, 2)}, 1, api.ErrRange},
		{[]api.Edit{put(5, 1, 2), put(5, 1, 3), put(7, 0, 2), put(1_000_001, 1, 2)}, 2, api.ErrState},
		{[]api.Edit{put(5, 1, 2), drop(5, 1, 9), put(7)}, 1, api.ErrRange},
		{[]api.Edit{put(7), drop(5, 1, 9)}, 0, api.ErrShape},
		{[]api.Edit{put(5, 1, 2), drop(7), drop(5, 1, 9)}, 1, api.ErrShape},
	} {
		allOne(t, o, l, c.edits, nil, c.n, c.e)
	}
	var edits []api.Edit
	for range 59 {
		edits = append(edits, put(1, 1, 1))
	}
	allOne(t, o, l, append(edits, drop(0, 2, 2)), nil, 59, api.ErrNone)
	allOne(t, o, l, append(edits, drop(0, 1, 1)), nil, 0, api.OK)
}

// All is Set and Clear one after another, and what stands anywhere is what was written there last: held against a table, over many edits.
func TestManyEdits(t *testing.T) {
	for _, o := range []api.Outline{shop(), sized(1), sized(12), sized(3, 4), sized(4, 3), sized(2, 3, 2), sized(2, 1, 2, 3)} {
		cells, _ := place.Cells(o)
		stands := map[int]int{}
		var l []api.Entry
		seed := uint32(7)
		next := func(below int) int {
			seed = seed*1664525 + 1013904223
			return int(seed>>16) % below
		}
		for range 150 {
			var edits []api.Edit
			one := l
			n, want := 0, error(nil)
			before := fmt.Sprint(l)
			for range next(6) {
				k := next(cells)
				p, _ := place.Of(o, k)
				e := api.Edit{At: p, N: next(2_000_001) - 1_000_000, Clear: next(3) == 0}
				edits = append(edits, e)
				if want != nil {
					continue
				}
				got, err := []api.Entry(nil), error(nil)
				if e.Clear {
					got, err = input.Clear(o, one, p)
				} else {
					got, err = input.Set(o, one, p, e.N)
				}
				if err != nil {
					n, want = len(edits)-1, err
					continue
				}
				one = got
			}
			if want != nil {
				allOne(t, o, l, edits, nil, n, plain.Told(want))
				continue
			}
			allOne(t, o, l, edits, one, 0, api.OK)
			if fmt.Sprint(l) != before {
				t.Fatalf("the entries were %s, are %v", before, l)
			}
			l = one
			for _, e := range edits {
				k, _ := place.Number(o, e.At)
				if e.Clear {
					delete(stands, k)
				} else {
					stands[k] = e.N
				}
			}
			checkStands(t, o, l, stands)
		}
		if len(stands) == 0 && cells > 1 {
			t.Errorf("nothing was written in %v", o)
		}
	}
}

// checkStands holds entries against a table of numbers by the number of the place.
func checkStands(t *testing.T, o api.Outline, l []api.Entry, stands map[int]int) {
	t.Helper()
	cells, _ := place.Cells(o)
	var want []api.Entry
	for k := range cells {
		p, _ := place.Of(o, k)
		n, is := stands[k]
		if !is {
			getOne(t, o, l, p, api.Cell{}, api.OK)
			continue
		}
		getOne(t, o, l, p, api.Cell{Kind: api.Number, N: n}, api.OK)
		want = append(want, api.Entry{At: p, N: n})
	}
	if !same(l, want) {
		t.Errorf("entries %v, want %v", l, want)
	}
	checkOne(t, o, l, api.OK)
}

// The greatest cube, written at every place.
func TestFullCube(t *testing.T) {
	o := sized(12, 5, 10, 5)
	var l []api.Entry
	for k := range 3000 {
		p, _ := place.Of(o, k)
		l = append(l, api.Entry{At: p, N: k})
	}
	checkOne(t, o, l, api.OK)
	for _, k := range []int{0, 1, 1499, 2998, 2999} {
		p := l[k].At
		rest := slices.Delete(slices.Clone(l), k, k+1)
		getOne(t, o, l, p, api.Cell{Kind: api.Number, N: k}, api.OK)
		getOne(t, o, rest, p, api.Cell{}, api.OK)
		clearOne(t, o, l, p, rest, api.OK)
		setOne(t, o, rest, p, k, l, api.OK)
	}
	refuses(t, o, append(slices.Clone(l), l[2999]), api.ErrClash)
}

// spare gives entries, and places in them, behind whose length something lies.
func spare(l []api.Entry) []api.Entry {
	out := make([]api.Entry, 0, len(l)+4)
	for _, e := range l {
		p := append(make(api.Place, 0, len(e.At)+2), e.At...)
		p[:len(p)+1][len(p)] = 77
		out = append(out, api.Entry{At: p, N: e.N})
	}
	out[:len(l)+1][len(l)] = at(77, 7, 7)
	return out
}

func behind(l []api.Entry) string {
	s := fmt.Sprint(l[:cap(l)])
	for _, e := range l {
		s += fmt.Sprint(e.At[:cap(e.At)])
	}
	return s
}

// spoil writes over all memory that an answer has.
func spoil(l []api.Entry) {
	for i, e := range l {
		p := e.At[:cap(e.At)]
		for k := range p {
			p[k] = -9
		}
		l[i].N = -9
	}
	l = l[:cap(l)]
	for i := range l {
		l[i] = at(-8, -8)
	}
}

// P2: what is handed in stays as it was, what lies behind its length is not read, and what comes out is the caller's.
func TestNothingSharedOrWritten(t *testing.T) {
	o := shop()
	l := spare([]api.Entry{at(10, 1, 1), at(0, 1, 3), at(-5, 2, 1)})
	was := behind(l)
	for _, p := range []api.Place{{1, 1}, {1, 2}, {1, 3}, {2, 1}, {2, 2}} {
		p = append(make(api.Place, 0, 4), p...)
		p[:3][2] = 66
		edits := append(make([]api.Edit, 0, 3), api.Edit{At: p, N: 4}, api.Edit{At: p, N: 5})
		edits[:3][2] = drop(0, 1, 1)
		calls := []func() []api.Entry{
			func() []api.Entry { a, _ := input.Set(o, l, p, 4); return a },
			func() []api.Entry { a, _ := input.Clear(o, l, p); return a },
			func() []api.Entry { a, _, _ := input.All(o, l, edits); return a },
			func() []api.Entry { a, _, _ := input.All(o, l, nil); return a },
		}
		for i, call := range calls {
			a, b := call(), call()
			want := fmt.Sprint(b)
			spoil(a)
			if got := fmt.Sprint(b); got != want {
				t.Errorf("call %d of %v: two answers share memory: %s, want %s", i, p, got, want)
			}
			if got := fmt.Sprint(call()); got != want {
				t.Errorf("call %d of %v: kept what it answered: %s, want %s", i, p, got, want)
			}
			for k := range b {
				c := call()
				rest := fmt.Sprint(c[k+1:])
				spoil(c[k : k+1 : k+1])
				if got := fmt.Sprint(c[k+1:]); got != rest {
					t.Errorf("call %d of %v: places of one answer share memory: %s, want %s", i, p, got, rest)
				}
			}
		}
		if !slices.Equal(p[:3], api.Place{p[0], p[1], 66}) || p[0] < 0 || !reflect.DeepEqual(edits[:3][2], drop(0, 1, 1)) || edits[0].N != 4 {
			t.Errorf("the place or the edits were written into: %v, %v", p[:3], edits[:3])
		}
	}
	if got := behind(l); got != was {
		t.Errorf("the entries were written into: %s, were %s", got, was)
	}
	if !reflect.DeepEqual(o, shop()) {
		t.Errorf("the outline was written into: %v", o)
	}
	getOne(t, o, l, api.Place{2, 1}, api.Cell{Kind: api.Number, N: -5}, api.OK)
	checkOne(t, o, l, api.OK)
}

// Fresh entries are the same, right or not, and share nothing.
func TestFresh(t *testing.T) {
	for _, l := range [][]api.Entry{nil, {}, {{}}, {at(7, 9), at(-1, 1, 1), {}}, {at(10, 1, 1), at(0, 1, 3), at(-5, 2, 1)}} {
		l = spare(l)
		was := behind(l)
		a, b := input.Fresh(l), input.Fresh(l)
		if !same(a, l) {
			t.Errorf("Fresh(%v) = %v", l, a)
		}
		spoil(a)
		if !same(b, l) || behind(l) != was {
			t.Errorf("what is fresh is shared: %v, want %v, was %s", b, l, was)
		}
	}
}
