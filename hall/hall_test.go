package hall_test

import (
	"math"
	"reflect"
	"slices"
	"strconv"
	"strings"
	"testing"

	"tallyhall/api"
	"tallyhall/calc"
	"tallyhall/cell"
	"tallyhall/hall"
	"tallyhall/input"
	"tallyhall/need"
	"tallyhall/place"
	"tallyhall/plain"
	"tallyhall/rules"
	"tallyhall/solve"
)

// cube reads dims, of each its name, its solve, and members as name:parent:sign:formula, blanks between.
func cube(dims ...string) api.Outline {
	var o api.Outline
	for _, text := range dims {
		w := strings.Fields(text)
		d := api.Dim{Name: w[0], Solve: number(w[1])}
		for _, m := range w[2:] {
			p := strings.Split(m, ":")
			d.Members = append(d.Members, api.Member{Name: p[0], Parent: number(p[1]), Sign: number(p[2]), Formula: p[3]})
		}
		o.Dims = append(o.Dims, d)
	}
	return o
}

// edits reads places with numbers, as 1.0=7, or with ! to clear, as 1.0!, blanks between.
func edits(text string) []api.Edit {
	var out []api.Edit
	for _, w := range strings.Fields(text) {
		at, n, sets := strings.Cut(w, "=")
		at, drops := strings.CutSuffix(at, "!")
		if sets == drops {
			panic(w)
		}
		e := api.Edit{Clear: drops}
		if sets {
			e.N = number(n)
		}
		for _, m := range strings.Split(at, ".") {
			e.At = append(e.At, number(m))
		}
		out = append(out, e)
	}
	return out
}

// entries reads places with numbers, as 1.0=7, blanks between.
func entries(text string) []api.Entry {
	var out []api.Entry
	for _, e := range edits(text) {
		out = append(out, api.Entry{At: e.At, N: e.N})
	}
	return out
}

// cellsOf reads cells, blanks between.
func cellsOf(text string) []api.Cell {
	var out []api.Cell
	for _, w := range strings.Fields(text) {
		c, err := cell.Parse(w)
		if err != nil {
			panic(err)
		}
		out = append(out, c)
	}
	return out
}

func number(text string) int {
	n, err := strconv.Atoi(text)
	if err != nil {
		panic(err)
	}
	return n
}

// places of an outline in order, counted up from the last dim: another way than chapter 4's.
func places(o api.Outline) []api.Place {
	out := []api.Place{{}}
	for _, d := range o.Dims {
		var longer []api.Place
		for _, p := range out {
			for k := range d.Members {
				longer = append(longer, append(slices.Clone(p), k))
			}
		}
		out = longer
	}
	return out
}

// shop has accounts, of which the margin has a formula, and times.
func shop(accounts, times string) api.Outline {
	return cube("account "+accounts+" profit:-1:1: sales:0:1: costs:0:-1: margin:-1:1:profit*100/sales", "time "+times+" year:-1:1: spring:0:1: autumn:0:1:")
}

const (
	shopEdits = "1.1=200 1.2=100 2.1=150 2.2=20"
	shopCells = "130 50 80 300 200 100 170 150 20 43 25 80"
)

func open(t *testing.T, o api.Outline) *hall.Hall {
	t.Helper()
	h, err := hall.New(o)
	if err != nil || h == nil {
		t.Fatalf("New(%v) = %v, %v", o, h, err)
	}
	return h
}

// done edits tell how many cells were reckoned anew, or an error and 0.
func done(t *testing.T, h *hall.Hall, l []api.Edit, want int, e api.Errno) {
	t.Helper()
	if got, err := h.Do(l); got != want || plain.Told(err) != e {
		t.Errorf("Do(%v) = %d, %v, want %d, %v", l, got, err, want, e)
	}
}

func sameEntries(a, b []api.Entry) bool {
	return slices.EqualFunc(a, b, func(x, y api.Entry) bool { return slices.Equal(x.At, y.At) && x.N == y.N })
}

// stands asks for all that a hall has, every cell by itself too.
func stands(t *testing.T, h *hall.Hall, o api.Outline, cells []api.Cell, l []api.Entry) {
	t.Helper()
	if got := h.Cells(); !slices.Equal(got, cells) {
		t.Errorf("Cells of %v = %v, want %v", o, got, cells)
	}
	if got := h.Entries(); !sameEntries(got, l) {
		t.Errorf("Entries of %v = %v, want %v", o, got, l)
	}
	for n, p := range places(o) {
		if got, err := h.Cell(p); err != nil || got != cells[n] {
			t.Errorf("Cell(%v) of %v = %v, %v, want %v", p, o, got, err, cells[n])
		}
	}
}

// standsText is stands, with cells and entries as texts.
func standsText(t *testing.T, h *hall.Hall, o api.Outline, cells, written string) {
	t.Helper()
	stands(t, h, o, cellsOf(cells), entries(written))
}

func TestOrdinary(t *testing.T) {
	for _, solves := range [][]string{{"0", "0"}, {"1", "0"}, {"9", "9"}} {
		o := shop(solves[0], solves[1])
		h := open(t, o)
		standsText(t, h, o, "- - - - - - - - - - - -", "")
		done(t, h, edits(shopEdits), 12, api.OK)
		standsText(t, h, o, shopCells, shopEdits)
		done(t, h, edits("1.1=170"), 6, api.OK)
		standsText(t, h, o, "100 20 80 270 170 100 170 150 20 37 11 80", "1.1=170 1.2=100 2.1=150 2.2=20")
		done(t, h, edits("2.2!"), 6, api.OK)
		standsText(t, h, o, "120 20 100 270 170 100 150 150 - 44 11 100", "1.1=170 1.2=100 2.1=150")
		done(t, h, edits("1.1=0 1.2!"), 9, api.OK)
		standsText(t, h, o, "-150 -150 - 0 0 - 150 150 - # # -", "1.1=0 2.1=150")
		done(t, h, edits("1.1! 2.1!"), 8, api.OK)
		standsText(t, h, o, "- - - - - - - - - - - -", "")
	}
	// The times tell first, so the year's margin is the sum of both.
	o := shop("0", "1")
	h := open(t, o)
	done(t, h, edits(shopEdits), 12, api.OK)
	standsText(t, h, o, "130 50 80 300 200 100 170 150 20 105 25 80", shopEdits)
	done(t, h, edits("1.1=170"), 6, api.OK)
	standsText(t, h, o, "100 20 80 270 170 100 170 150 20 91 11 80", "1.1=170 1.2=100 2.1=150 2.2=20")
}

// A step of a hall: edits, what they come to, and all that stands then.
type step struct {
	edits   string
	count   int
	cells   string
	written string
}

// Worked out by hand, step by step.
func TestSteps(t *testing.T) {
	for _, c := range []struct {
		o     api.Outline
		first string
		steps []step
	}{
		{cube("x 0 a:-1:1:"), "-", []step{{"0=5", 1, "5", "0=5"}, {"", 0, "5", "0=5"}, {"0!", 1, "-", ""}, {"0=0", 1, "0", "0=0"}, {"0=-1000000", 1, "-1000000", "0=-1000000"}, {"0=1000000", 1, "1000000", "0=1000000"}}},
		// Cells that hang on nothing are right from the first, and never reckoned anew.
		{cube("x 0 a:-1:1:6*7 b:-1:1:"), "42 -", []step{{"", 0, "42 -", ""}, {"1=3", 1, "42 3", "1=3"}, {"1!", 1, "42 -", ""}}},
		{cube("x 0 a:-1:1:1/0 b:-1:1: c:-1:1:a+b"), "# - #", []step{{"1=3", 2, "# 3 #", "1=3"}}},
		// The same number once more is an edit as well.
		{cube("x 0 a:-1:1: b:0:1:"), "- -", []step{{"1=4", 2, "4 4", "1=4"}, {"1=4", 2, "4 4", "1=4"}}},
		// Several edits of one place: the last one stays, and each cell counts once.
		{cube("x 0 a:-1:1: b:0:1: c:0:-1:"), "- - -", []step{{"1=4 1=5 1=6", 2, "6 6 -", "1=6"}, {"1=9 1!", 2, "- - -", ""}, {"2=1 2! 2=2", 2, "-2 - 2", "2=2"}, {"1=1 2=5 1=3 2=3", 3, "0 3 3", "1=3 2=3"}, {"2! 1!", 3, "- - -", ""}}},
		// Those that need stand ahead, behind, and both.
		{cube("x 0 a:-1:1:b+1 b:-1:1:c+1 c:-1:1:d+1 d:-1:1:"), "3 2 1 -", []step{{"3=10", 4, "13 12 11 10", "3=10"}, {"3=0", 4, "3 2 1 0", "3=0"}}},
		{cube("x 0 a:-1:1: b:-1:1:a*2 c:-1:1:b*2 d:-1:1:c*2"), "- - - -", []step{{"0=1", 4, "1 2 4 8", "0=1"}, {"0=-3", 4, "-3 -6 -12 -24", "0=-3"}, {"0!", 4, "- - - -", ""}}},
		{cube("x 0 a:-1:1:d-b b:-1:1: c:-1:1:a*10 d:-1:1:b*b"), "- - - -", []step{{"1=3", 4, "6 3 60 9", "1=3"}, {"1=5", 4, "20 5 200 25", "1=5"}}},
		// A part that counts nothing makes nobody above it dirty.
		{cube("x 0 a:-1:1: b:0:0: c:0:1:"), "- - -", []step{{"1=7", 1, "- 7 -", "1=7"}, {"2=5", 2, "5 7 5", "1=7 2=5"}, {"1=8 2=6", 3, "6 8 6", "1=8 2=6"}}},
		// A Fault comes and goes, and goes on to all that need it.
		{cube("x 0 a:-1:1: b:-1:1:12/a c:-1:1:b+1"), "- - 1", []step{{"0=0", 3, "0 # #", "0=0"}, {"0=4", 3, "4 3 4", "0=4"}, {"0=0", 3, "0 # #", "0=0"}, {"0!", 3, "- - 1", ""}}},
		// Beyond the greatest value, and back.
		{cube("x 0 a:-1:1: b:-1:1:a*1000000 c:-1:1:b+a d:-1:1:c-c"), "- - - -", []step{{"0=1000000", 4, "1000000 1000000000000 # #", "0=1000000"}, {"0=-2", 4, "-2 -2000000 -2000002 0", "0=-2"}}},
		// Dirty though nothing changes there.
		{cube("x 0 a:-1:1: b:-1:1:a*0"), "- -", []step{{"0=1", 2, "1 0", "0=1"}, {"0=2", 2, "2 0", "0=2"}}},
		{cube("x 0 a:-1:1: b:0:1:", "y 0 c:-1:1: d:0:1:"), "- - - -", []step{{"1.1=6", 4, "6 6 6 6", "1.1=6"}, {"1.1=7", 4, "7 7 7 7", "1.1=7"}}},
		{cube("x 0 a:-1:1: b:-1:1:", "y 0 c:-1:1: d:0:1: e:-1:1:c*d"), "- - - - - -", []step{{"1.1=6", 3, "- - - 6 6 36", "1.1=6"}, {"0.1=2 1.1=1", 6, "2 2 4 1 1 1", "0.1=2 1.1=1"}, {"1.1! 0.1=3", 6, "3 3 9 - - -", "0.1=3"}}},
	} {
		h := open(t, c.o)
		standsText(t, h, c.o, c.first, "")
		for _, s := range c.steps {
			done(t, h, edits(s.edits), s.count, api.OK)
			standsText(t, h, c.o, s.cells, s.written)
		}
	}
}

// Without an edit nothing is reckoned, however often it is asked for.
func TestNoEdit(t *testing.T) {
	o := shop("1", "0")
	h := open(t, o)
	done(t, h, nil, 0, api.OK)
	done(t, h, edits(shopEdits), 12, api.OK)
	for range 3 {
		done(t, h, nil, 0, api.OK)
		done(t, h, []api.Edit{}, 0, api.OK)
		standsText(t, h, o, shopCells, shopEdits)
	}
}

// refused edits tell their error, and all stands as it did, whatever was right ahead of what is wrong.
func refused(t *testing.T, h *hall.Hall, o api.Outline, l []api.Edit, e api.Errno) {
	t.Helper()
	cells, written := h.Cells(), h.Entries()
	done(t, h, l, 0, e)
	stands(t, h, o, cells, written)
}

func TestWrongEdits(t *testing.T) {
	o := shop("1", "0")
	empty, full := open(t, o), open(t, o)
	done(t, full, edits(shopEdits), 12, api.OK)
	for text, e := range map[string]api.Errno{
		"1=1": api.ErrShape, "1!": api.ErrShape, "1.1.1=1": api.ErrShape, "1.1.1!": api.ErrShape, "9=1": api.ErrShape,
		"4.1=1": api.ErrRange, "-1.1=1": api.ErrRange, "1.3=1": api.ErrRange, "1.-1=1": api.ErrRange, "4.1!": api.ErrRange, "1.3!": api.ErrRange, "0.9=1": api.ErrRange,
		"0.0=1": api.ErrState, "0.1=1": api.ErrState, "1.0=1": api.ErrState, "3.1=1": api.ErrState, "3.0=1": api.ErrState, "0.1=1000001": api.ErrState,
		"0.0!": api.ErrNone, "0.1!": api.ErrNone, "1.0!": api.ErrNone, "3.1!": api.ErrNone,
		"1.1=1000001": api.ErrRange, "1.1=-1000001": api.ErrRange,
		"1.1=7 1.1! 1.1!": api.ErrNone, "1.1=7 2.2=8 1=1": api.ErrShape, "1.1=7 0.1=1 1=1": api.ErrState, "1.1=7 1=1 0.1=1": api.ErrShape, "1.1=7 1.2=1000001": api.ErrRange, "1.1=7 1.1=8 2.1=9 3.1=1": api.ErrState,
	} {
		for _, h := range []*hall.Hall{empty, full} {
			refused(t, h, o, edits(text), e)
		}
	}
	refused(t, empty, o, edits("1.1!"), api.ErrNone)
	refused(t, empty, o, edits("1.2=1 1.1!"), api.ErrNone)
	refused(t, full, o, edits("1.1! 2.1! 1.1!"), api.ErrNone)
	for _, h := range []*hall.Hall{empty, full} {
		refused(t, h, o, []api.Edit{{}}, api.ErrShape)
		refused(t, h, o, []api.Edit{{At: make(api.Place, 100_000)}}, api.ErrShape)
		refused(t, h, o, []api.Edit{{At: api.Place{math.MinInt, 1}}}, api.ErrRange)
		refused(t, h, o, []api.Edit{{At: api.Place{1, math.MaxInt}, Clear: true}}, api.ErrRange)
		refused(t, h, o, []api.Edit{{At: api.Place{1, 1}, N: math.MinInt}}, api.ErrRange)
	}
	standsText(t, empty, o, "- - - - - - - - - - - -", "")
	standsText(t, full, o, shopCells, shopEdits)
	// And it goes on from there.
	done(t, empty, edits(shopEdits), 12, api.OK)
	standsText(t, empty, o, shopCells, shopEdits)
	// A member whose parts all count nothing is no leaf, either.
	odd := cube("x 0 a:-1:1: b:0:0:")
	refused(t, open(t, odd), odd, edits("0=1"), api.ErrState)
	// What a Clear has as its number does not matter.
	done(t, full, []api.Edit{{At: api.Place{1, 1}, N: math.MaxInt, Clear: true}}, 6, api.OK)
	standsText(t, full, o, "-70 -150 80 100 - 100 170 150 20 -70 - 80", "1.2=100 2.1=150 2.2=20")
}

// There may be MaxEdits; one more are too many, ahead of all else that is wrong.
func TestHowManyEdits(t *testing.T) {
	o := cube("x 0 t:-1:1: a:0:1:")
	h := open(t, o)
	var l []api.Edit
	for n := range 60 {
		l = append(l, api.Edit{At: api.Place{1}, N: n})
	}
	done(t, h, l[:59], 2, api.OK)
	standsText(t, h, o, "58 58", "1=58")
	done(t, h, l, 2, api.OK)
	standsText(t, h, o, "59 59", "1=59")
	refused(t, h, o, append(slices.Clone(l), edits("1=7")...), api.ErrFull)
	refused(t, h, o, append(edits("0=1 1.1=1"), l...), api.ErrFull)
	refused(t, h, o, make([]api.Edit, 61), api.ErrFull)
	refused(t, h, o, make([]api.Edit, 100_000), api.ErrFull)
	refused(t, h, o, make([]api.Edit, 60), api.ErrShape)
	refused(t, h, o, append(slices.Clone(l[:59]), edits("0=1")...), api.ErrState)
}

// Cell tells what chapter 4 finds wrong, before and behind edits.
func TestWrongPlaces(t *testing.T) {
	o := shop("1", "0")
	h := open(t, o)
	for range 2 {
		for _, p := range []api.Place{nil, {}, {1}, {1, 1, 1}, {-1}, {9, 9, 9}, make(api.Place, 100_000), {-1, 1}, {4, 1}, {1, -1}, {1, 3}, {math.MinInt, 1}, {1, math.MaxInt}} {
			want := place.Check(o, p)
			if got, err := h.Cell(p); want == nil || got != (api.Cell{}) || plain.Told(err) != plain.Told(want) {
				t.Errorf("Cell(%v) = %v, %v, want %v", p, got, err, want)
			}
		}
		done(t, h, edits(shopEdits), 12, api.OK)
	}
	standsText(t, h, o, shopCells, shopEdits)
}

// wrongOutlines are what chapter 10 finds wrong.
func wrongOutlines() []api.Outline {
	great := strings.Repeat(" a:-1:1:", 13)
	out := []api.Outline{
		{}, {Dims: []api.Dim{}}, {Dims: make([]api.Dim, 1)}, {Dims: make([]api.Dim, 5)}, {Dims: make([]api.Dim, 100_000)},
		cube("x 0"), cube("X 0 a:-1:1:"), cube("x 10 a:-1:1:"), cube("x -1 a:-1:1:"), cube("x 0" + great), cube("x 0 a:-1:1:", "x 0 a:-1:1:"),
		cube("x 0 A:-1:1:"), cube("x 0 a:-1:1: a:-1:1:"), cube("x 0 a:0:1:"), cube("x 0 a:-2:1:"), cube("x 0 a:-1:2:"), cube("x 0 a:-1:1:1 b:0:1:"), cube("x 0 a:-1:1:" + strings.Repeat("1", 101)),
		cube("x 0 a:-1:1:a+"), cube("x 0 a:-1:1:b"), cube("x 0 a:-1:1:1000001"), cube("x 0 a:-1:1:1" + strings.Repeat("+1", 15)),
		cube("x 0 a:-1:1:a"), cube("x 0 a:-1:1:b b:-1:1:a"), cube("x 0 a:-1:1: b:0:1:a"), cube("x 0 a:-1:1: b:-1:1:c c:-1:1:b"),
		cube("x 0 a:-1:1: b:-1:1:", "y 0 a:-1:1: b:-1:1:x"), cube("x 0 a:-1:1: b:-1:1:", "y 0 a:-1:1: b:-1:1:b"), cube("x 0 a:-1:1:a", "y 0 a:-1:1:+"), cube("x 0 a:-1:1:a", "y 0 A:-1:1:"),
	}
	var o api.Outline
	for i := range 4 {
		o.Dims = append(o.Dims, doubled(string(rune('p'+i)), 0, 12))
	}
	return append(out, o)
}

func TestWrongOutlines(t *testing.T) {
	told := make([]int, 9)
	for _, o := range wrongOutlines() {
		_, _, err := rules.All(o)
		e := plain.Told(err)
		told[e]++
		if h, err := hall.New(o); h != nil || plain.Told(err) != e {
			t.Errorf("New(%v) = %v, %v, want %v", o, h, err, e)
		}
	}
	for _, e := range []api.Errno{api.ErrRange, api.ErrSyntax, api.ErrFull, api.ErrNone, api.ErrState, api.ErrClash, api.ErrCycle} {
		if told[e] == 0 {
			t.Errorf("%v was not told", e)
		}
	}
	if told[api.OK] > 0 {
		t.Error("an outline is right")
	}
}

// dice that always fall alike.
type dice uint64

func (d *dice) roll(n int) int {
	*d = *d*6364136223846793005 + 1442695040888963407
	return int(uint64(*d) >> 33 % uint64(n))
}

// expression of so many operands, of which some are names.
func (d *dice) expression(names []string, operands int) string {
	if operands > 1 {
		k := 1 + d.roll(operands-1)
		return "(" + d.expression(names, k) + ")" + "+-**//"[d.roll(6):][:1] + "(" + d.expression(names, operands-k) + ")"
	}
	if d.roll(4) > 0 {
		return names[d.roll(len(names))]
	}
	return []string{"0", "1", "2", "10", "1000000"}[d.roll(5)]
}

// dim with formulas, right by chapter 10; names do not rise, so that their order is not that of places.
func (d *dice) dim(name string, size int) api.Dim {
	var names []string
	for i := range size {
		names = append(names, string(rune('a'+(i*7+3)%12)))
	}
	for {
		out := api.Dim{Name: name, Solve: d.roll(4)}
		for i := range size {
			m := api.Member{Name: names[i], Parent: d.roll(i+1) - 1, Sign: []int{1, 1, -1, 0}[d.roll(4)]}
			if m.Parent >= 0 && out.Members[m.Parent].Formula != "" {
				m.Parent = -1
			}
			if d.roll(4) == 0 {
				m.Formula = d.expression(names, 1+d.roll(5))
			}
			out.Members = append(out.Members, m)
		}
		if _, err := rules.Check(out); err == nil {
			return out
		}
	}
}

func (d *dice) outline() api.Outline {
	var o api.Outline
	dims := 1 + d.roll(4)
	most := []int{12, 8, 5, 4}[dims-1]
	for i := range dims {
		o.Dims = append(o.Dims, d.dim(string(rune('w'+i)), 1+d.roll(most)))
	}
	return o
}

// edits of places of leafs, most of the time; some clear, some are wrong.
func (d *dice) edits(all, leafs []api.Place) []api.Edit {
	var out []api.Edit
	for range d.roll(5) {
		at := leafs
		if len(leafs) == 0 || d.roll(30) == 0 {
			at = all
		}
		n := []int{0, 1, -1, 7, -30, 200, api.MaxInput, -api.MaxInput}[d.roll(8)]
		if d.roll(40) == 0 {
			n = api.MaxInput + 1
		}
		out = append(out, api.Edit{At: at[d.roll(len(at))], N: n, Clear: d.roll(5) == 0})
	}
	return out
}

// dirtyBy tells how many places hang on some of edits, or are of them: by asking of every place which leafs it needs.
func dirtyBy(leafsOf [][]int, numbers []int) int {
	count := 0
	for _, leafs := range leafsOf {
		if slices.ContainsFunc(numbers, func(n int) bool { return slices.Contains(leafs, n) }) {
			count++
		}
	}
	return count
}

// Many cubes, and many edits of each: what a hall has is what chapters 5 and 12 tell all at once, and what it reckons anew what chapter 13 does.
func TestManyCubes(t *testing.T) {
	d := dice(14)
	right, wrong, few, kinds := 0, 0, 0, make([]int, 3)
	for range 400 {
		o := d.outline()
		all := places(o)
		var leafs []api.Place
		var leafsOf [][]int
		for _, p := range all {
			if leaf, _ := place.Leaf(o, p); leaf {
				leafs = append(leafs, p)
			}
			l, err := need.Leafs(o, p)
			if err != nil {
				t.Fatal(err)
			}
			leafsOf = append(leafsOf, l)
		}
		h := open(t, o)
		var written []api.Entry
		for range 12 {
			l := d.edits(all, leafs)
			next, _, err := input.All(o, written, l)
			if err != nil {
				wrong++
				refused(t, h, o, l, plain.Told(err))
				continue
			}
			var numbers []int
			for _, e := range l {
				n, _ := place.Number(o, e.At)
				numbers = append(numbers, n)
			}
			count := dirtyBy(leafsOf, numbers)
			done(t, h, l, count, api.OK)
			written = next
			cells, err := calc.All(o, written)
			if err != nil {
				t.Fatal(err)
			}
			stands(t, h, o, cells, written)
			for _, c := range cells {
				kinds[c.Kind]++
			}
			right++
			if count > len(numbers) && count < len(all) {
				few++
			}
			if t.Failed() {
				t.FailNow()
			}
		}
	}
	if right < 2000 || wrong < 300 || few < 1000 || slices.Min(kinds) < 1000 {
		t.Errorf("there were few: right %d, wrong %d, of which some are dirty %d, of kinds %v", right, wrong, few, kinds)
	}
}

// However it was written, the same stands: one by one, all together, or by a way round.
func TestWhicheverWay(t *testing.T) {
	d := dice(5)
	for range 100 {
		o := d.outline()
		var leafs []api.Edit
		for _, p := range places(o) {
			if leaf, _ := place.Leaf(o, p); leaf && len(leafs) < 30 {
				leafs = append(leafs, api.Edit{At: p, N: d.roll(2001) - 1000})
			}
		}
		together, single, around := open(t, o), open(t, o), open(t, o)
		do := func(h *hall.Hall, l []api.Edit) {
			t.Helper()
			if _, err := h.Do(l); err != nil {
				t.Fatalf("Do(%v): %v", l, err)
			}
		}
		do(together, leafs)
		for i := range leafs {
			do(single, leafs[len(leafs)-1-i:][:1])
		}
		for i, e := range leafs {
			do(around, []api.Edit{{At: e.At, N: i}, leafs[0], {At: e.At, Clear: true}, e})
			do(around, []api.Edit{{At: e.At, Clear: true}})
			do(around, []api.Edit{e})
		}
		cells, written := together.Cells(), together.Entries()
		stands(t, single, o, cells, written)
		stands(t, around, o, cells, written)
		for _, e := range leafs {
			do(around, []api.Edit{{At: e.At, Clear: true}})
		}
		stands(t, around, o, open(t, o).Cells(), nil)
	}
}

// doubled is a dim in which each member but the last is the sum of all behind it: so there are twice as many ways down from it as from the next.
func doubled(name string, solve, members int) api.Dim {
	d := api.Dim{Name: name, Solve: solve}
	for i := range members {
		var behind []string
		for k := i + 1; k < members; k++ {
			behind = append(behind, string(rune('a'+k)))
		}
		d.Members = append(d.Members, api.Member{Name: string(rune('a' + i)), Parent: -1, Formula: strings.Join(behind, "+")})
	}
	return d
}

// ways down from a member of a doubled dim to its last one.
func ways(members, i int) int {
	return 1 << max(members-2-i, 0)
}

// As great a cube as may be, with as many ways down as may be: each cell is reckoned once.
func TestGreatest(t *testing.T) {
	for _, sizes := range [][]int{{12, 12, 12}, {12, 10, 5, 5}, {7, 7, 7, 7}} {
		for turn := range 2 {
			var o api.Outline
			var last api.Place
			for i, n := range sizes {
				o.Dims = append(o.Dims, doubled(string(rune('p'+i)), i*turn%4, n))
				last = append(last, n-1)
			}
			all := places(o)
			h := open(t, o)
			stands(t, h, o, make([]api.Cell, len(all)), nil)
			for _, by := range []int{1, -7, 0, 1000} {
				var want []api.Cell
				for _, p := range all {
					n := by
					for i, k := range p {
						n *= ways(sizes[i], k)
					}
					want = append(want, cell.Of(n))
				}
				done(t, h, []api.Edit{{At: last, N: by}}, len(all), api.OK)
				stands(t, h, o, want, []api.Entry{{At: last, N: by}})
			}
			done(t, h, []api.Edit{{At: last, Clear: true}}, len(all), api.OK)
			stands(t, h, o, make([]api.Cell, len(all)), nil)
		}
	}
}

// 3000 leafs, of which nobody is a part of another one: 60 at a time are written, and no others reckoned.
func TestGreatestWritten(t *testing.T) {
	var o api.Outline
	for i, n := range []int{12, 10, 5, 5} {
		d := api.Dim{Name: string(rune('p' + i)), Solve: i}
		for k := range n {
			d.Members = append(d.Members, api.Member{Name: string(rune('a' + k)), Parent: -1, Sign: 1})
		}
		o.Dims = append(o.Dims, d)
	}
	h := open(t, o)
	var cells []api.Cell
	var written []api.Entry
	var l []api.Edit
	for n, p := range places(o) {
		cells = append(cells, cell.Of(n-1500))
		written = append(written, api.Entry{At: p, N: n - 1500})
		l = append(l, api.Edit{At: p, N: n - 1500})
		if len(l) == api.MaxEdits {
			done(t, h, l, len(l), api.OK)
			l = nil
		}
	}
	stands(t, h, o, cells, written)
	cells[2999], written[2999].N = cell.Of(7), 7
	done(t, h, []api.Edit{{At: written[2999].At, N: 7}}, 1, api.OK)
	stands(t, h, o, cells, written)
}

// Behind each edit of a leaf a cell is what chapter 11 tells there.
func TestAgainstValues(t *testing.T) {
	o := cube("x 2 t:-1:1: a:0:1: b:0:-1: r:-1:1:a*100/b", "y 1 year:-1:1: half:0:1: q:1:1: s:1:-1: z:0:1:", "z 3 all:-1:1: n:0:1: s:0:0: f:-1:1:n-s")
	h := open(t, o)
	for n, p := range places(o) {
		leaf, _ := place.Leaf(o, p)
		if !leaf {
			continue
		}
		if _, err := h.Do([]api.Edit{{At: p, N: n*37%101 - 50}}); err != nil {
			t.Fatal(err)
		}
		for _, q := range places(o) {
			want, err := solve.Value(o, h.Entries(), q)
			if err != nil {
				t.Fatal(err)
			}
			if got, err := h.Cell(q); err != nil || got != want {
				t.Fatalf("Cell(%v) = %v, %v, want %v", q, got, err, want)
			}
		}
	}
}

// P2: what is handed in stays as it was, what lies behind its length is not read, and a hall keeps none of it.
func TestNothingWrittenOrKept(t *testing.T) {
	o := shop("1", "0")
	o.Dims = append(make([]api.Dim, 0, 4), o.Dims...)
	o.Dims[:3][2] = api.Dim{Name: "X", Solve: 99}
	o.Dims[1].Members = append(make([]api.Member, 0, 5), o.Dims[1].Members...)
	o.Dims[1].Members[:4][3] = api.Member{Name: "X", Parent: 0, Sign: 1, Formula: "+"}
	l := append(make([]api.Edit, 0, 9), edits(shopEdits)...)
	l[:5][4] = api.Edit{At: api.Place{9}, N: -1}
	l[0].At = append(make(api.Place, 0, 4), l[0].At...)
	l[0].At[:3][2] = 9
	p := append(make(api.Place, 0, 4), 3, 0)
	p[:3][2] = 9
	h := open(t, o)
	done(t, h, l, 12, api.OK)
	if c, err := h.Cell(p); err != nil || c != cell.Of(43) {
		t.Errorf("Cell(%v) = %v, %v", p, c, err)
	}
	if !reflect.DeepEqual(o, shop("1", "0")) || !reflect.DeepEqual(l, edits(shopEdits)) || !slices.Equal(p, api.Place{3, 0}) {
		t.Errorf("what was handed in was written into: %v, %v, %v", o, l, p)
	}
	if o.Dims[:3][2].Solve != 99 || o.Dims[1].Members[:4][3].Formula != "+" || l[:5][4].N != -1 || l[0].At[:3][2] != 9 || p[:3][2] != 9 {
		t.Error("what lies behind was written into")
	}
	// What becomes of it later does not matter.
	for i := range l {
		l[i].N, l[i].Clear = -7, true
		for k := range l[i].At {
			l[i].At[k] = -7
		}
	}
	for i := range o.Dims {
		for k := range o.Dims[i].Members {
			o.Dims[i].Members[k] = api.Member{Name: "X", Parent: 7, Sign: 7, Formula: "+"}
		}
		o.Dims[i] = api.Dim{}
	}
	own := shop("1", "0")
	standsText(t, h, own, shopCells, shopEdits)
	done(t, h, edits("1.1=170"), 6, api.OK)
	standsText(t, h, own, "100 20 80 270 170 100 170 150 20 37 11 80", "1.1=170 1.2=100 2.1=150 2.2=20")
}

// P2: what comes out is the caller's: written into, up to all that its memory holds, it changes no later answer, and no list another one.
func TestFreshMemory(t *testing.T) {
	o := shop("1", "0")
	h := open(t, o)
	for range 3 {
		for range 2 {
			cells, written := h.Cells(), h.Entries()
			cells = cells[:cap(cells)]
			for i := range cells {
				cells[i] = api.Cell{Kind: 9, N: 9}
			}
			for i := range written {
				rest := slices.Clone(written[i+1:])
				for k, e := range rest {
					rest[k].At = slices.Clone(e.At)
				}
				at := written[i].At[:cap(written[i].At)]
				for k := range at {
					at[k] = -7
				}
				if !sameEntries(written[i+1:], rest) {
					t.Fatalf("places of one answer share memory: %v, want %v", written[i+1:], rest)
				}
			}
			written = written[:cap(written)]
			for i := range written {
				written[i] = api.Entry{N: -7}
			}
		}
		if len(h.Entries()) == 0 {
			standsText(t, h, o, "- - - - - - - - - - - -", "")
			done(t, h, edits(shopEdits), 12, api.OK)
		}
		standsText(t, h, o, shopCells, shopEdits)
	}
}

// Two halls of one outline are two.
func TestApart(t *testing.T) {
	o := shop("1", "0")
	one, two := open(t, o), open(t, o)
	done(t, one, edits(shopEdits), 12, api.OK)
	standsText(t, two, o, "- - - - - - - - - - - -", "")
	done(t, two, edits("2.2=5"), 6, api.OK)
	standsText(t, one, o, shopCells, shopEdits)
	standsText(t, two, o, "-5 - -5 - - - 5 - 5 - - -", "2.2=5")
}
