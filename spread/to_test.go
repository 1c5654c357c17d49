package spread_test

import (
	"math"
	"reflect"
	"slices"
	"strconv"
	"strings"
	"testing"

	"tallyhall/api"
	"tallyhall/input"
	"tallyhall/plain"
	"tallyhall/roll"
	"tallyhall/rules"
	"tallyhall/solve"
	"tallyhall/spread"
)

// cube reads dims, of each its name, its solve, and members as name:parent:sign:formula, blanks between.
func cube(dims ...string) api.Outline {
	var o api.Outline
	for _, text := range dims {
		w := strings.Fields(text)
		d := api.Dim{Name: w[0], Solve: number(w[1])}
		for _, m := range w[2:] {
			p := strings.Split(m, ":")
			d.Members = append(d.Members, api.Member{Name: p[0], Parent: number(p[1]), Sign: number(p[2]), Formula: p[3]})
		}
		o.Dims = append(o.Dims, d)
	}
	return o
}

// place reads members, dots between.
func place(text string) api.Place {
	var p api.Place
	for _, m := range strings.Split(text, ".") {
		p = append(p, number(m))
	}
	return p
}

// entries reads places with numbers, as 1.0=7, blanks between.
func entries(text string) []api.Entry {
	var out []api.Entry
	for _, w := range strings.Fields(text) {
		at, n, _ := strings.Cut(w, "=")
		out = append(out, api.Entry{At: place(at), N: number(n)})
	}
	return out
}

// edits of places with numbers, read as entries are.
func edits(text string) []api.Edit {
	var out []api.Edit
	for _, e := range entries(text) {
		out = append(out, api.Edit{At: e.At, N: e.N})
	}
	return out
}

func sameEdits(a, b []api.Edit) bool { return len(a) == 0 && len(b) == 0 || reflect.DeepEqual(a, b) }

func toOne(t *testing.T, o api.Outline, l []api.Entry, p api.Place, n int, want []api.Edit, e api.Errno) {
	t.Helper()
	got, err := spread.To(o, l, p, n)
	if plain.Told(err) != e || !sameEdits(got, want) {
		t.Errorf("To(%s, %s, %s, %d) = %v, %v, want %v, %v", short(o), short(l), short(p), n, got, err, want, e)
	}
}

// shop has accounts, of which one has a formula and one counts the other way, and times, of which one counts nothing.
func shop() api.Outline {
	return cube("account 1 profit:-1:1: sales:0:1: shop:1:1: web:1:1: costs:0:-1: margin:-1:1:(profit*100)/sales", "time 0 year:-1:1: spring:0:1: autumn:0:1: plan:-1:1: left:3:0: right:3:1:")
}

const shopEntries = "2.1=30 2.2=10 3.1=0 3.4=7 4.1=-5 4.2=8"

func TestTo(t *testing.T) {
	o, l := shop(), entries(shopEntries)
	// Like what is written: 30, 10, 0, and nothing.
	toOne(t, o, l, place("1.0"), 100, edits("2.1=75 2.2=25 3.1=0 3.2=0"), api.OK)
	toOne(t, o, l, place("1.0"), 40, edits("2.1=30 2.2=10 3.1=0 3.2=0"), api.OK)
	toOne(t, o, l, place("1.0"), 7, edits("2.1=5 2.2=2 3.1=0 3.2=0"), api.OK)
	toOne(t, o, l, place("1.0"), 0, edits("2.1=0 2.2=0 3.1=0 3.2=0"), api.OK)
	toOne(t, o, l, place("1.1"), 5, edits("2.1=5 3.1=0"), api.OK)
	toOne(t, o, l, place("2.0"), 10, edits("2.1=8 2.2=2"), api.OK)
	// Nothing above 0: all 0, or nothing at all.
	toOne(t, o, l, place("3.0"), 9, edits("3.1=5 3.2=4"), api.OK)
	toOne(t, o, nil, place("1.0"), 10, edits("2.1=3 2.2=3 3.1=2 3.2=2"), api.OK)
	toOne(t, o, entries("2.1=0 3.2=0"), place("1.0"), 10, edits("2.1=3 2.2=3 3.1=2 3.2=2"), api.OK)
	toOne(t, o, entries("3.4=7 4.1=8"), place("1.0"), 10, edits("2.1=3 2.2=3 3.1=2 3.2=2"), api.OK)
	// Some below 0, and others above; or none.
	toOne(t, o, l, place("4.0"), 9, edits("4.1=5 4.2=4"), api.OK)
	toOne(t, o, entries("2.1=30 3.2=-1"), place("1.0"), 10, edits("2.1=3 2.2=3 3.1=2 3.2=2"), api.OK)
	toOne(t, o, entries("2.1=-30 2.2=-1"), place("1.0"), 10, edits("2.1=3 2.2=3 3.1=2 3.2=2"), api.OK)
	toOne(t, o, entries("2.1=1 3.2=1 4.1=-1"), place("1.0"), 10, edits("2.1=5 2.2=0 3.1=0 3.2=5"), api.OK)
	// A place of leafs is a leaf of its own, however it counts elsewhere.
	toOne(t, o, l, place("2.1"), 12, edits("2.1=12"), api.OK)
	toOne(t, o, l, place("4.1"), 12, edits("4.1=12"), api.OK)
	toOne(t, o, l, place("4.4"), 0, edits("4.4=0"), api.OK)
	toOne(t, o, l, place("3.4"), api.MaxInput, edits("3.4=1000000"), api.OK)
}

// What has a formula has no leafs, and is none.
func TestFormulas(t *testing.T) {
	o, l := shop(), entries(shopEntries)
	for _, p := range []string{"5.0", "5.1", "5.3", "5.4"} {
		toOne(t, o, l, place(p), 10, nil, api.ErrShape)
	}
	o = cube("x 0 a:-1:1: b:0:1: c:0:1:b*2 d:0:-1:7 e:0:1:")
	toOne(t, o, entries("1=1 4=2"), place("0"), 10, edits("1=3 4=7"), api.OK)
	toOne(t, o, nil, place("2"), 10, nil, api.ErrShape)
	toOne(t, cube("x 0 a:-1:1: b:0:1:7"), nil, place("0"), 10, nil, api.ErrShape)
	toOne(t, cube("x 0 a:-1:1: b:0:1:7 c:0:1:"), nil, place("0"), 10, edits("2=10"), api.OK)
	// Where a member has no leafs the place has none, whatever the other ones have.
	toOne(t, cube("x 0 a:-1:1:", "y 0 a:-1:1:7"), nil, place("0.0"), 10, nil, api.ErrShape)
}

// Weights are 1, all of them; two that count the other way make one that does not.
func TestWeights(t *testing.T) {
	o, l := shop(), entries(shopEntries)
	for _, p := range []string{"0.0", "0.1", "0.3", "1.3", "2.3", "4.3", "0.4"} {
		toOne(t, o, l, place(p), 10, nil, api.ErrShape)
	}
	twice := "x 0 a:-1:1: b:0:-1: c:1:-1: d:1:-1:"
	toOne(t, cube(twice), nil, place("0"), 3, edits("2=2 3=1"), api.OK)
	toOne(t, cube(twice), nil, place("1"), 3, nil, api.ErrShape)
	down := "0 a:-1:1: b:0:-1: c:0:-1:"
	o = cube("x "+down, "y "+down)
	toOne(t, o, entries("1.1=1 2.2=3"), place("0.0"), 8, edits("1.1=2 1.2=0 2.1=0 2.2=6"), api.OK)
	toOne(t, o, nil, place("0.1"), 8, nil, api.ErrShape)
	toOne(t, o, nil, place("1.0"), 8, nil, api.ErrShape)
	toOne(t, o, nil, place("2.1"), 8, edits("2.1=8"), api.OK)
	// One that does not count is a leaf all the same, the first or the last.
	toOne(t, cube("x 0 a:-1:1: b:0:0: c:0:1:"), nil, place("0"), 8, nil, api.ErrShape)
	toOne(t, cube("x 0 a:-1:1: b:0:1: c:0:0:"), nil, place("0"), 8, nil, api.ErrShape)
	toOne(t, cube("x 0 a:-1:1: b:0:1: c:0:-1:"), nil, place("0"), 8, nil, api.ErrShape)
	toOne(t, cube("x 0 a:-1:1: b:0:0:"), nil, place("0"), 8, nil, api.ErrShape)
	// How a member counts above itself does not matter.
	toOne(t, cube("x 0 a:-1:0: b:0:1: c:0:1:"), nil, place("0"), 8, edits("1=4 2=4"), api.OK)
	toOne(t, cube("x 0 a:-1:1: b:0:-1: c:1:1: d:1:1:"), nil, place("1"), 8, edits("2=4 3=4"), api.OK)
}

// flat dim of a member that has so many parts, which count alike.
func flat(name string, parts, sign int) string {
	text := name + " 0 all:-1:1:"
	for i := range parts {
		text += " " + string(rune('a'+i)) + ":0:" + strconv.Itoa(sign) + ":"
	}
	return text
}

// As many leafs as there may be edits, and more; another weight is told ahead of too many, and these ahead of n.
func TestHowManyLeafs(t *testing.T) {
	o := cube(flat("x", 10, 1), flat("y", 6, 1))
	got, err := spread.To(o, nil, place("0.0"), api.MaxInput)
	if err != nil || len(got) != api.MaxEdits {
		t.Fatalf("%d edits, %v", len(got), err)
	}
	for i, e := range got {
		want := 16666
		if i < 40 {
			want = 16667
		}
		if !slices.Equal(e.At, api.Place{1 + i/6, 1 + i%6}) || e.N != want || e.Clear {
			t.Errorf("edit %d is %+v", i, e)
		}
	}
	l, _, err := input.All(o, nil, got)
	if err != nil {
		t.Fatal(err)
	}
	toOne(t, o, l, place("0.0"), api.MaxInput, got, api.OK)
	for _, n := range []int{0, 5, -1, api.MaxInput + 1, math.MinInt} {
		toOne(t, cube(flat("x", 11, 1), flat("y", 6, 1)), nil, place("0.0"), n, nil, api.ErrFull)
		toOne(t, cube("x 0 a:-1:1:", flat("y", 11, 1), flat("z", 11, 1), flat("w", 11, 1)), nil, place("0.0.0.0"), n, nil, api.ErrFull)
		toOne(t, cube(flat("x", 11, 1), flat("y", 5, 1)+" z:0:0:"), nil, place("0.0"), n, nil, api.ErrShape)
		toOne(t, cube(flat("x", 11, -1), flat("y", 6, 1)), nil, place("0.0"), n, nil, api.ErrShape)
		toOne(t, cube(flat("x", 11, -1), flat("y", 6, -1)), nil, place("0.0"), n, nil, api.ErrFull)
		toOne(t, cube(flat("x", 11, 1), flat("y", 5, 1)+" z:0:1:7 w:0:1:"), nil, place("0.0"), n, nil, api.ErrFull)
		toOne(t, cube(flat("x", 11, 1), flat("y", 5, 1)+" z:0:1:7 w:0:1:"), nil, place("0.6"), n, nil, api.ErrShape)
	}
	// One below, with 11 of the 66.
	toOne(t, cube(flat("x", 11, 1), flat("y", 6, 1)), nil, place("0.3"), 3, edits("1.3=1 2.3=1 3.3=1 4.3=0 5.3=0 6.3=0 7.3=0 8.3=0 9.3=0 10.3=0 11.3=0"), api.OK)
}

// n is told last of all, in either way of spreading.
func TestWrongNumbers(t *testing.T) {
	o, l := shop(), entries(shopEntries)
	for _, n := range []int{-1, api.MaxInput + 1, math.MinInt, math.MaxInt} {
		for _, p := range []string{"1.0", "2.1", "2.0", "3.0", "4.0", "4.4"} {
			toOne(t, o, l, place(p), n, nil, api.ErrRange)
			toOne(t, o, nil, place(p), n, nil, api.ErrRange)
		}
		for _, p := range []string{"0.0", "1.3", "5.0"} {
			toOne(t, o, l, place(p), n, nil, api.ErrShape)
		}
	}
}

// wrongOutlines are what chapter 10 finds wrong.
func wrongOutlines() []api.Outline {
	return []api.Outline{
		{}, {Dims: []api.Dim{}}, {Dims: make([]api.Dim, 1)}, {Dims: make([]api.Dim, 5)}, {Dims: make([]api.Dim, 100_000)},
		cube("x 0"), cube("X 0 a:-1:1:"), cube("x 10 a:-1:1:"), cube("x -1 a:-1:1:"), cube("x 0" + strings.Repeat(" a:-1:1:", 13)), cube("x 0 a:-1:1:", "x 0 a:-1:1:"), cube("x 0 a:-1:1:", "y 0 a:-1:1: A:-1:1:"),
		cube("x 0 A:-1:1:"), cube("x 0 a:-1:1: a:-1:1:"), cube("x 0 a:0:1:"), cube("x 0 a:-2:1:"), cube("x 0 a:-1:2:"), cube("x 0 a:-1:1:1 b:0:1:"), cube("x 0 a:-1:1:" + strings.Repeat("1", 101)),
		cube("x 0 a:-1:1:a+"), cube("x 0 a:-1:1:b"), cube("x 0 a:-1:1:1000001"), cube("x 0 a:-1:1:1" + strings.Repeat("+1", 15)),
		cube("x 0 a:-1:1:a"), cube("x 0 a:-1:1: b:0:1:a"), cube("x 0 a:-1:1:b b:-1:1:a"), cube("x 0 a:-1:1:", "y 0 a:-1:1:a"),
		cube(flat("w", 11, 1), flat("x", 11, 1), flat("y", 11, 1), flat("z", 11, 1)),
	}
}

// Chapter 10's error comes first, though the formula that is wrong is of no matter to the leafs; then chapter 5's, then chapter 4's, then what is wrong with the leafs.
func TestWrongCubes(t *testing.T) {
	told := make([]int, 9)
	for _, o := range wrongOutlines() {
		_, _, err := rules.All(o)
		e := plain.Told(err)
		told[e]++
		for _, p := range []api.Place{nil, {0}, {0, 0}, {1}, {7, 7, 7}} {
			toOne(t, o, nil, p, 5, nil, e)
			toOne(t, o, entries("0=9999999 7.7=1"), p, -1, nil, e)
		}
	}
	for _, e := range []api.Errno{api.ErrRange, api.ErrSyntax, api.ErrFull, api.ErrNone, api.ErrState, api.ErrClash, api.ErrCycle} {
		if told[e] == 0 {
			t.Errorf("%v was not told", e)
		}
	}
	if told[api.OK] > 0 {
		t.Error("some outline was right")
	}
	o := shop()
	for text, e := range map[string]api.Errno{
		"1=1": api.ErrShape, "2.1.1=1": api.ErrShape, "6.1=1": api.ErrRange, "2.6=1": api.ErrRange, "-1.1=1": api.ErrRange, "0.1=1": api.ErrState, "1.1=1": api.ErrState, "5.1=1": api.ErrState, "2.0=1": api.ErrState, "2.1=1000001": api.ErrRange, "2.1=-9223372036854775808": api.ErrRange, "2.1=1 2.1=1": api.ErrClash, "3.1=1 2.2=1": api.ErrClash, "5.1=1 1=1": api.ErrState,
	} {
		for _, p := range []api.Place{nil, {0}, {0, 9}, {0, 0}, {5, 0}, {1, 0}, {2, 1}} {
			toOne(t, o, entries(text), p, 5, nil, e)
			toOne(t, o, entries(text), p, -1, nil, e)
		}
	}
	toOne(t, o, []api.Entry{{}}, place("1.0"), 5, nil, api.ErrShape)
}

func TestWrongPlaces(t *testing.T) {
	o, l := shop(), entries(shopEntries)
	for _, n := range []int{5, -1} {
		for _, p := range []api.Place{nil, {}, {1}, {1, 0, 0}, {9}, {9, 9, 9}, make(api.Place, 100_000)} {
			toOne(t, o, l, p, n, nil, api.ErrShape)
		}
		for _, p := range []api.Place{{-1, 0}, {0, -1}, {6, 0}, {1, 6}, {5, 6}, {0, 99}, {math.MinInt, 0}, {math.MaxInt, 0}, {1, math.MaxInt}} {
			toOne(t, o, l, p, n, nil, api.ErrRange)
		}
	}
}

// dim with formulas, if it may have some, of which a few are wrong; in every other one all parts count once.
func (d *dice) dim(name string, size int, formulas bool) api.Dim {
	out := api.Dim{Name: name, Solve: d.roll(3)}
	once := d.roll(2) == 0
	for i := range size {
		m := api.Member{Name: string(rune('a' + i)), Parent: d.roll(i+1) - 1, Sign: 1}
		if i > 0 && d.roll(3) > 0 {
			m.Parent = 0
		}
		if !once {
			m.Sign = []int{1, 1, 1, 1, -1, 0}[d.roll(6)]
		}
		if m.Parent >= 0 && out.Members[m.Parent].Formula != "" {
			m.Parent = -1
		}
		if formulas && d.roll(8) == 0 {
			m.Formula = []string{"7", string(rune('a' + d.roll(size))), "1/0", string(rune('a'+d.roll(size))) + "*2"}[d.roll(4)]
		}
		out.Members = append(out.Members, m)
	}
	return out
}

func (d *dice) outline(formulas bool) api.Outline {
	var o api.Outline
	dims := 1 + d.roll(3)
	most := []int{12, 11, 6}[dims-1]
	for i := range dims {
		o.Dims = append(o.Dims, d.dim(string(rune('w'+i)), 1+max(d.roll(most), d.roll(most)), formulas))
	}
	return o
}

// places of an outline, in order.
func places(o api.Outline) []api.Place {
	out := []api.Place{nil}
	for _, d := range o.Dims {
		var longer []api.Place
		for _, head := range out {
			for k := range d.Members {
				longer = append(longer, append(slices.Clone(head), k))
			}
		}
		out = longer
	}
	return out
}

// leaf tells whether a member is one.
func leaf(d api.Dim, k int) bool {
	return d.Members[k].Formula == "" && !slices.ContainsFunc(d.Members, func(m api.Member) bool { return m.Parent == k })
}

// below tells whether a leaf is a part of a member, of whichever depth, and how it counts there.
func below(d api.Dim, k, top int) (int, bool) {
	if k == top {
		return 1, true
	}
	if k < 0 {
		return 0, false
	}
	n, is := below(d, d.Members[k].Parent, top)
	return n * d.Members[k].Sign, is
}

// expectLeafs of a place, and whether each counts once.
func expectLeafs(o api.Outline, p api.Place) ([]api.Place, bool) {
	var out []api.Place
	once := true
	for _, at := range places(o) {
		weight, is := 1, true
		for i, d := range o.Dims {
			n, part := below(d, at[i], p[i])
			weight, is = weight*n, is && part && leaf(d, at[i])
		}
		if is {
			out = append(out, at)
			once = once && weight == 1
		}
	}
	return out, once
}

// expectTo: the numbers that come to the leafs, of a cube and a place that are right.
func expectTo(o api.Outline, l []api.Entry, p api.Place, n int) ([]api.Edit, api.Errno) {
	leafs, once := expectLeafs(o, p)
	switch {
	case len(leafs) == 0 || !once:
		return nil, api.ErrShape
	case len(leafs) > api.MaxEdits:
		return nil, api.ErrFull
	case n < 0 || n > api.MaxInput:
		return nil, api.ErrRange
	}
	weights := make([]int, len(leafs))
	for i, at := range leafs {
		for _, e := range l {
			if slices.Equal(e.At, at) {
				weights[i] = e.N
			}
		}
	}
	if slices.Min(weights) < 0 || slices.Max(weights) == 0 {
		weights = many(1, len(leafs))
	}
	var out []api.Edit
	for i, k := range expectLike(n, weights) {
		out = append(out, api.Edit{At: leafs[i], N: k})
	}
	return out, api.OK
}

// written at some places of leafs; now and then at one that is none, or twice.
func (d *dice) written(o api.Outline, wrong bool) []api.Entry {
	often := 1 + d.roll(4)
	values := [][]int{{0}, {1, 2, 3, 50, 0}, {7, 7, 7, -1}, {-3, 0, -api.MaxInput}, {api.MaxInput, 999_999, 1}}[d.roll(5)]
	var out []api.Entry
	for _, at := range places(o) {
		is := true
		for i, dim := range o.Dims {
			is = is && leaf(dim, at[i])
		}
		if is && d.roll(5) < often || wrong && d.roll(40) == 0 {
			out = append(out, api.Entry{At: at, N: values[d.roll(len(values))]})
		}
	}
	if wrong && len(out) > 0 && d.roll(10) == 0 {
		out = append(out, out[len(out)-1])
	}
	return out
}

// spreadOne number and look at what comes of it: nothing is lost, all else is as it was, and spread again it is the same.
func spreadOne(t *testing.T, o api.Outline, l []api.Entry, p api.Place, n int) api.Errno {
	t.Helper()
	want, e := expectTo(o, l, p, n)
	toOne(t, o, l, p, n, want, e)
	if e != api.OK {
		return e
	}
	after, _, err := input.All(o, l, want)
	if err != nil {
		t.Fatalf("the edits cannot be done: %v", err)
	}
	if c, err := roll.Value(o, after, p); err != nil || c != (api.Cell{Kind: api.Number, N: n}) {
		t.Errorf("%v, %v, %v, %d: it comes to %v, %v", o, l, p, n, c, err)
	}
	toOne(t, o, after, p, n, want, api.OK)
	toOne(t, o, after, p, 0, zeros(want), api.OK)
	return e
}

// zeros at the places of edits.
func zeros(l []api.Edit) []api.Edit {
	var out []api.Edit
	for _, e := range l {
		out = append(out, api.Edit{At: e.At})
	}
	return out
}

func TestManyCubes(t *testing.T) {
	d := dice(7)
	told := make([]int, 9)
	for range 1500 {
		o := d.outline(d.roll(2) == 0)
		if _, _, err := rules.All(o); err != nil {
			continue
		}
		l, all := d.written(o, false), places(o)
		for range 8 {
			p := all[d.roll(len(all))]
			if d.roll(3) == 0 {
				p = all[0]
			}
			told[spreadOne(t, o, l, p, d.roll([]int{3, 100, api.MaxInput + 10}[d.roll(3)])-d.roll(2))]++
		}
		if t.Failed() {
			t.FailNow()
		}
	}
	for _, e := range []api.Errno{api.OK, api.ErrRange, api.ErrShape, api.ErrFull} {
		if told[e] < 20 {
			t.Errorf("%v was told %d times", e, told[e])
		}
	}
}

// Without formulas what is told at the place (chapter 11) is the sum, whatever the solves are; and no cell changes that no leaf of it is a part of.
func TestNothingIsLost(t *testing.T) {
	d := dice(11)
	done := 0
	for done < 400 {
		o := d.outline(false)
		l, all := d.written(o, false), places(o)
		p, n := all[d.roll(len(all))], d.roll(1000)
		edits, err := spread.To(o, l, p, n)
		if err != nil {
			continue
		}
		done++
		after, _, err := input.All(o, l, edits)
		if err != nil {
			t.Fatal(err)
		}
		if c, err := solve.Value(o, after, p); err != nil || c != (api.Cell{Kind: api.Number, N: n}) {
			t.Fatalf("%v, %v, %v, %d: it comes to %v, %v", o, l, p, n, c, err)
		}
		for _, e := range l {
			if c, _ := input.Get(o, after, e.At); c.N != e.N && !slices.ContainsFunc(edits, func(k api.Edit) bool { return slices.Equal(k.At, e.At) }) {
				t.Fatalf("%v, %v, %v, %d: something else was written", o, l, p, n)
			}
		}
	}
}

// Whatever is wrong, chapter 11's Value's error is told, if it tells one.
func TestErrorsOfValue(t *testing.T) {
	d := dice(13)
	told := make([]int, 9)
	for range 3000 {
		o := d.outline(true)
		l := d.written(o, d.roll(2) == 0)
		p := make(api.Place, len(o.Dims))
		if d.roll(8) == 0 {
			p = make(api.Place, d.roll(4))
		}
		for i := range p {
			p[i] = d.roll(6) - d.roll(2)
		}
		_, err := solve.Value(o, l, p)
		if err == nil {
			continue
		}
		e := plain.Told(err)
		told[e]++
		toOne(t, o, l, p, d.roll(100)-d.roll(2)*100, nil, e)
	}
	for _, e := range []api.Errno{api.ErrRange, api.ErrShape, api.ErrState, api.ErrClash, api.ErrCycle} {
		if told[e] < 10 {
			t.Errorf("%v was told %d times", e, told[e])
		}
	}
}

// As many leafs as a cube can have below one place, all written.
func TestGreatCubes(t *testing.T) {
	o := cube(flat("w", 6, 1), flat("x", 6, 1), flat("y", 6, 1), flat("z", 7, 1))
	var l []api.Entry
	for _, at := range places(o) {
		if !slices.Contains(at, 0) {
			l = append(l, api.Entry{At: at, N: 1 + at[3]})
		}
	}
	if len(l) != 1512 {
		t.Fatalf("%d entries", len(l))
	}
	toOne(t, o, l, place("0.0.0.0"), 5, nil, api.ErrFull)
	toOne(t, o, l, place("0.0.0.1"), 5, nil, api.ErrFull)
	toOne(t, o, l, place("0.0.1.0"), 5, nil, api.ErrFull)
	got, err := spread.To(o, l, place("1.0.2.0"), 6*35*4)
	if err != nil || len(got) != 42 {
		t.Fatalf("%d edits, %v", len(got), err)
	}
	for i, e := range got {
		if !slices.Equal(e.At, api.Place{1, 1 + i/7, 2, 1 + i%7}) || e.N != 4*(2+i%7) {
			t.Errorf("edit %d is %+v", i, e)
		}
	}
}

// P2: what is handed in stays as it was, what lies behind its length is not read, and what is told hangs on it alone.
func TestNothingWrittenOrKept(t *testing.T) {
	o, l, p := shop(), entries(shopEntries), append(make(api.Place, 0, 4), 1, 0)
	o.Dims = append(make([]api.Dim, 0, 4), o.Dims...)
	o.Dims[:3][2] = api.Dim{Name: "X", Solve: 99}
	o.Dims[0].Members = append(make([]api.Member, 0, 9), o.Dims[0].Members...)
	o.Dims[0].Members[:7][6] = api.Member{Name: "gifts", Parent: 1, Sign: -1, Formula: "+"}
	l = append(make([]api.Entry, 0, 9), l...)
	l[:7][6] = api.Entry{At: api.Place{9}, N: -1}
	l[0].At = append(make(api.Place, 0, 4), l[0].At...)
	l[0].At[:3][2], p[:3][2] = 9, 9
	for range 2 {
		toOne(t, o, l, p, 7, edits("2.1=5 2.2=2 3.1=0 3.2=0"), api.OK)
		toOne(t, o, nil, p, 7, edits("2.1=2 2.2=2 3.1=2 3.2=1"), api.OK)
		toOne(t, o, l, place("0.0"), 7, nil, api.ErrShape)
		toOne(t, o, l, p, -1, nil, api.ErrRange)
	}
	if !reflect.DeepEqual(o, shop()) || !reflect.DeepEqual(l, entries(shopEntries)) || !slices.Equal(p, place("1.0")) {
		t.Errorf("what was handed in was written into: %v, %v, %v", o, l, p)
	}
	if o.Dims[:3][2].Solve != 99 || o.Dims[0].Members[:7][6].Formula != "+" || l[:7][6].N != -1 || l[0].At[:3][2] != 9 || p[:3][2] != 9 {
		t.Error("what lies behind was written into")
	}
}

// P2: what comes out is the caller's: no two places share memory, and none is shared with what was handed in or comes out again.
func TestFreshMemory(t *testing.T) {
	for _, text := range []string{"1.0", "2.0", "2.1"} {
		o, l, p := shop(), entries(shopEntries), place(text)
		want, _ := spread.To(shop(), entries(shopEntries), place(text), 9)
		again, err := spread.To(o, l, p, 9)
		if err != nil {
			t.Fatal(err)
		}
		for i := range again {
			got, _ := spread.To(o, l, p, 9)
			at := got[i].At
			for k := range at[:cap(at)] {
				at[:cap(at)][k] = 99
			}
			got[i].At = want[i].At
			if !sameEdits(got, want) {
				t.Errorf("%s: a place shares memory with place %d: %v", text, i, got)
			}
		}
		if !reflect.DeepEqual(o, shop()) || !reflect.DeepEqual(l, entries(shopEntries)) || !slices.Equal(p, place(text)) || !sameEdits(again, want) {
			t.Errorf("%s: memory is shared: %v, %v, %v, %v", text, o, l, p, again)
		}
		for i := range l {
			l[i].At[0] = 99
		}
		p[0], o.Dims[0] = 99, api.Dim{}
		if !sameEdits(again, want) {
			t.Errorf("%s: memory is shared with what was handed in: %v", text, again)
		}
	}
}
