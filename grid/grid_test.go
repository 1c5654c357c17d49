package grid_test

import (
	"math"
	"reflect"
	"slices"
	"strconv"
	"strings"
	"testing"

	"tallyhall/api"
	"tallyhall/cell"
	"tallyhall/grid"
	"tallyhall/input"
	"tallyhall/outline"
	"tallyhall/place"
	"tallyhall/plain"
	"tallyhall/rules"
	"tallyhall/solve"
)

// cube reads dims, of each its name, its solve, and members as name:parent:sign:formula, blanks between.
func cube(dims ...string) api.Outline {
	var o api.Outline
	for _, text := range dims {
		w := strings.Fields(text)
		d := api.Dim{Name: w[0], Solve: number(w[1])}
		for _, m := range w[2:] {
			p := strings.Split(m, ":")
			d.Members = append(d.Members, api.Member{Name: p[0], Parent: number(p[1]), Sign: number(p[2]), Formula: p[3]})
		}
		o.Dims = append(o.Dims, d)
	}
	return o
}

// entries reads places with numbers, as 1.0=7, blanks between.
func entries(text string) []api.Entry {
	var out []api.Entry
	for _, w := range strings.Fields(text) {
		at, n, _ := strings.Cut(w, "=")
		var p api.Place
		for _, m := range strings.Split(at, ".") {
			p = append(p, number(m))
		}
		out = append(out, api.Entry{At: p, N: number(n)})
	}
	return out
}

// numbers, blanks between.
func numbers(text string) []int {
	var out []int
	for _, w := range strings.Fields(text) {
		out = append(out, number(w))
	}
	return out
}

func number(text string) int {
	n, err := strconv.Atoi(text)
	if err != nil {
		panic(err)
	}
	return n
}

// gridOf reads rows and columns as numbers, and each row's cells, blanks between.
func gridOf(rows, cols string, cells ...string) api.Grid {
	g := api.Grid{Rows: numbers(rows), Cols: numbers(cols)}
	for _, text := range cells {
		var row []api.Cell
		for _, w := range strings.Fields(text) {
			c, err := cell.Parse(w)
			if err != nil {
				panic(err)
			}
			row = append(row, c)
		}
		g.Cells = append(g.Cells, row)
	}
	return g
}

func sameGrid(a, b api.Grid) bool {
	return slices.Equal(a.Rows, b.Rows) && slices.Equal(a.Cols, b.Cols) && slices.EqualFunc(a.Cells, b.Cells, func(x, y []api.Cell) bool { return slices.Equal(x, y) })
}

// nothing tells whether a grid is empty all over.
func nothing(g api.Grid) bool { return len(g.Rows) == 0 && len(g.Cols) == 0 && len(g.Cells) == 0 }

// copyOf a grid, of which the memory is its own.
func copyOf(g api.Grid) api.Grid {
	out := api.Grid{Rows: slices.Clone(g.Rows), Cols: slices.Clone(g.Cols)}
	for _, row := range g.Cells {
		out.Cells = append(out.Cells, slices.Clone(row))
	}
	return out
}

// turned by hand, cell by cell from the columns.
func turned(g api.Grid) api.Grid {
	out := api.Grid{Rows: g.Cols, Cols: g.Rows}
	for c := range g.Cols {
		var row []api.Cell
		for r := range g.Rows {
			row = append(row, g.Cells[r][c])
		}
		out.Cells = append(out.Cells, row)
	}
	return out
}

// madeOne grid is the wanted one, and right; the same dims the other way round make it turned.
func madeOne(t *testing.T, o api.Outline, l []api.Entry, at api.Place, row, col int, want api.Grid) {
	t.Helper()
	if got, err := grid.Make(o, l, at, row, col); err != nil || !sameGrid(got, want) || grid.Check(got) != nil {
		t.Errorf("Make(%v, %v, %v, %d, %d) = %v, %v, want %v", o, l, at, row, col, got, err, want)
	}
	if got, err := grid.Make(o, l, at, col, row); err != nil || !sameGrid(got, turned(want)) {
		t.Errorf("Make(%v, %v, %v, %d, %d) = %v, %v, want %v", o, l, at, col, row, got, err, turned(want))
	}
}

// notMade: Make tells an error, and nothing else.
func notMade(t *testing.T, o api.Outline, l []api.Entry, at api.Place, row, col int, e api.Errno) {
	t.Helper()
	if got, err := grid.Make(o, l, at, row, col); !nothing(got) || plain.Told(err) != e {
		t.Errorf("Make(%v, %v, %v, %d, %d) = %v, %v, want %v", o, l, at, row, col, got, err, e)
	}
}

// turnedOne grid is right, turns to the wanted one, and back.
func turnedOne(t *testing.T, g, want api.Grid) {
	t.Helper()
	if err := grid.Check(g); err != nil {
		t.Errorf("Check(%v) = %v", g, err)
	}
	if got, err := grid.Turn(g); err != nil || !sameGrid(got, want) || grid.Check(got) != nil {
		t.Errorf("Turn(%v) = %v, %v, want %v", g, got, err, want)
	}
	if got, err := grid.Turn(want); err != nil || !sameGrid(got, g) {
		t.Errorf("Turn(%v) = %v, %v, want %v", want, got, err, g)
	}
}

// linesOne: lines, with / between.
func linesOne(t *testing.T, o api.Outline, g api.Grid, row, col int, want string) {
	t.Helper()
	if got, err := grid.Lines(o, g, row, col); err != nil || !slices.Equal(got, strings.Split(want, "/")) {
		t.Errorf("Lines(%v, %v, %d, %d) = %q, %v, want %q", o, g, row, col, got, err, want)
	}
}

// noLines: Lines tells an error, and nothing else.
func noLines(t *testing.T, o api.Outline, g api.Grid, row, col int, e api.Errno) {
	t.Helper()
	if got, err := grid.Lines(o, g, row, col); len(got) > 0 || plain.Told(err) != e {
		t.Errorf("Lines(%v, %v, %d, %d) = %q, %v, want %v", o, g, row, col, got, err, e)
	}
}

// wrongOne: Check, Turn and Lines of an outline that is right tell an error of a grid, and nothing else.
func wrongOne(t *testing.T, g api.Grid, e api.Errno) {
	t.Helper()
	if err := grid.Check(g); plain.Told(err) != e {
		t.Errorf("Check(%v) = %v, want %v", g, err, e)
	}
	if got, err := grid.Turn(g); !nothing(got) || plain.Told(err) != e {
		t.Errorf("Turn(%v) = %v, %v, want %v", g, got, err, e)
	}
	noLines(t, shop("0", "0"), g, 0, 1, e)
}

// shop has accounts, of which the margin has a formula, and times.
func shop(accounts, times string) api.Outline {
	return cube("account "+accounts+" profit:-1:1: sales:0:1: costs:0:-1: margin:-1:1:profit*100/sales", "time "+times+" year:-1:1: spring:0:1: autumn:0:1:")
}

const shopEntries = "1.1=200 1.2=100 2.1=150 2.2=20"

func shopGrid() api.Grid {
	return gridOf("0 1 2 3", "0 1 2", "130 50 80", "300 200 100", "170 150 20", "43 25 80")
}

func TestOrdinary(t *testing.T) {
	o, l := shop("1", "0"), entries(shopEntries)
	g := shopGrid()
	// With two dims the place itself does not matter.
	for a := range 4 {
		for b := range 3 {
			madeOne(t, o, l, api.Place{a, b}, 0, 1, g)
		}
	}
	turnedOne(t, g, gridOf("0 1 2", "0 1 2 3", "130 300 170 43", "50 200 150 25", "80 100 20 80"))
	linesOne(t, o, g, 0, 1, "- year spring autumn/profit 130 50 80/sales 300 200 100/costs 170 150 20/margin 43 25 80")
	linesOne(t, o, turned(g), 1, 0, "- profit sales costs margin/year 130 300 170 43/spring 50 200 150 25/autumn 80 100 20 80")
	// The times tell first, so the year's margin is the sum of both.
	g.Cells[3][0] = cell.Of(105)
	madeOne(t, shop("0", "1"), l, api.Place{0, 0}, 0, 1, g)
	// Nothing written, and a Fault.
	madeOne(t, o, nil, api.Place{3, 2}, 0, 1, gridOf("0 1 2 3", "0 1 2", "- - -", "- - -", "- - -", "- - -"))
	g = gridOf("0 1 2 3", "0 1 2", "-7 0 -7", "0 0 -", "7 - 7", "# # -")
	madeOne(t, o, entries("1.1=0 2.2=7"), api.Place{3, 2}, 0, 1, g)
	linesOne(t, o, g, 0, 1, "- year spring autumn/profit -7 0 -7/sales 0 0 -/costs 7 - 7/margin # # -")
}

// Of more dims than two the place tells the members of the others, and of these alone.
func TestOtherDims(t *testing.T) {
	o := cube("x 0 t:-1:1: a:0:1:", "y 0 t:-1:1: a:0:1: b:0:-1:", "z 0 p:-1:1: q:-1:1:p*10 r:-1:1:")
	l := entries("1.1.0=5 1.1.2=6 1.2.0=2 1.2.2=-1")
	for _, c := range []struct {
		row, col int
		at       api.Place
		want     api.Grid
	}{
		{0, 1, api.Place{0, 0, 0}, gridOf("0 1", "0 1 2", "3 5 2", "3 5 2")},
		{0, 1, api.Place{1, 2, 1}, gridOf("0 1", "0 1 2", "30 50 20", "30 50 20")},
		{0, 1, api.Place{0, 1, 2}, gridOf("0 1", "0 1 2", "7 6 -1", "7 6 -1")},
		{0, 2, api.Place{1, 0, 2}, gridOf("0 1", "0 1 2", "3 30 7", "3 30 7")},
		{0, 2, api.Place{0, 1, 0}, gridOf("0 1", "0 1 2", "5 50 6", "5 50 6")},
		{0, 2, api.Place{0, 2, 1}, gridOf("0 1", "0 1 2", "2 20 -1", "2 20 -1")},
		{1, 2, api.Place{0, 2, 1}, gridOf("0 1 2", "0 1 2", "3 30 7", "5 50 6", "2 20 -1")},
		{1, 2, api.Place{1, 0, 0}, gridOf("0 1 2", "0 1 2", "3 30 7", "5 50 6", "2 20 -1")},
	} {
		madeOne(t, o, l, c.at, c.row, c.col, c.want)
	}
	o = cube("x 0 a:-1:1: b:-1:1:", "y 0 c:-1:1: d:-1:1:", "z 0 e:-1:1: f:-1:1:", "w 0 g:-1:1: h:-1:1:")
	l = entries("0.0.0.0=1 0.0.0.1=2 0.0.1.0=3 0.0.1.1=4 0.1.0.0=5 0.1.0.1=6 0.1.1.0=7 0.1.1.1=8 1.0.0.0=9 1.0.0.1=10 1.0.1.0=11 1.0.1.1=12 1.1.0.0=13 1.1.0.1=14 1.1.1.0=15 1.1.1.1=16")
	madeOne(t, o, l, api.Place{0, 0, 0, 0}, 0, 1, gridOf("0 1", "0 1", "1 5", "9 13"))
	madeOne(t, o, l, api.Place{1, 1, 1, 0}, 0, 1, gridOf("0 1", "0 1", "3 7", "11 15"))
	madeOne(t, o, l, api.Place{1, 0, 0, 1}, 1, 3, gridOf("0 1", "0 1", "9 10", "13 14"))
	madeOne(t, o, l, api.Place{0, 1, 1, 1}, 2, 3, gridOf("0 1", "0 1", "5 6", "7 8"))
	madeOne(t, o, l, api.Place{0, 1, 0, 1}, 0, 3, gridOf("0 1", "0 1", "5 6", "13 14"))
	g := gridOf("0 1", "0 1", "5 6", "13 14")
	linesOne(t, o, g, 0, 3, "- g h/a 5 6/b 13 14")
	linesOne(t, o, g, 3, 0, "- a b/g 5 6/h 13 14")
	linesOne(t, o, g, 1, 2, "- e f/c 5 6/d 13 14")
}

// One member, or as many as may be.
func TestSizes(t *testing.T) {
	o := cube("x 0 a:-1:1:", "y 0 a:-1:1:")
	madeOne(t, o, nil, api.Place{0, 0}, 0, 1, gridOf("0", "0", "-"))
	madeOne(t, o, entries("0.0=-1000000"), api.Place{0, 0}, 0, 1, gridOf("0", "0", "-1000000"))
	linesOne(t, o, gridOf("0", "0", "-1000000"), 0, 1, "- a/a -1000000")
	o = cube("x 0 a:-1:1:1/0 b:-1:1:1000000*1000000 c:-1:1:0-b d:-1:1:b+1", "y 0 z:-1:1:")
	g := gridOf("0 1 2 3", "0", "#", "1000000000000", "-1000000000000", "#")
	madeOne(t, o, nil, api.Place{0, 0}, 0, 1, g)
	linesOne(t, o, g, 0, 1, "- z/a #/b 1000000000000/c -1000000000000/d #")
	o = api.Outline{}
	for i, n := range []int{12, 12, 10, 2} {
		d := api.Dim{Name: string(rune('p' + i)), Solve: i}
		for k := range n {
			d.Members = append(d.Members, api.Member{Name: strings.Repeat(string(rune('a'+k)), 8), Parent: -1, Sign: 1})
		}
		o.Dims = append(o.Dims, d)
	}
	var l []api.Entry
	var want api.Grid
	head := "-"
	var lines string
	for r := range 12 {
		var row []api.Cell
		lines += "/" + o.Dims[0].Members[r].Name
		for c := range 12 {
			l = append(l, api.Entry{At: api.Place{r, c, 9, 1}, N: r*100 - c})
			row = append(row, cell.Of(r*100-c))
			lines += " " + strconv.Itoa(r*100-c)
		}
		want.Rows, want.Cols, want.Cells = append(want.Rows, r), append(want.Cols, r), append(want.Cells, row)
		head += " " + o.Dims[1].Members[r].Name
	}
	// Of 2880 places there may be a grid; with one more member of the last dim there are more than may be.
	madeOne(t, o, l, api.Place{3, 4, 9, 1}, 0, 1, want)
	linesOne(t, o, want, 0, 1, head+lines)
	blank := copyOf(want)
	for _, row := range blank.Cells {
		clear(row)
	}
	madeOne(t, o, l, api.Place{3, 4, 9, 0}, 0, 1, blank)
	o.Dims[3].Members = append(o.Dims[3].Members, api.Member{Name: "z", Parent: -1})
	notMade(t, o, l, api.Place{3, 4, 9, 1}, 0, 1, api.ErrFull)
	noLines(t, o, want, 0, 1, api.ErrFull)
}

// dice that always fall alike.
type dice uint64

func (d *dice) roll(n int) int {
	*d = *d*6364136223846793005 + 1442695040888963407
	return int(uint64(*d) >> 33 % uint64(n))
}

// expression of so many operands, of which some are names.
func (d *dice) expression(names []string, operands int) string {
	if operands > 1 {
		k := 1 + d.roll(operands-1)
		return "(" + d.expression(names, k) + ")" + "+-**//"[d.roll(6):][:1] + "(" + d.expression(names, operands-k) + ")"
	}
	if d.roll(4) > 0 {
		return names[d.roll(len(names))]
	}
	return []string{"0", "1", "2", "10", "1000000"}[d.roll(5)]
}

// dim with formulas, right by chapter 10; names do not rise, so that their order is not that of places.
func (d *dice) dim(name string, size int) api.Dim {
	var names []string
	for i := range size {
		names = append(names, string(rune('a'+(i*7+3)%12)))
	}
	for {
		out := api.Dim{Name: name, Solve: d.roll(4)}
		for i := range size {
			m := api.Member{Name: names[i], Parent: d.roll(i+1) - 1, Sign: []int{1, 1, -1, 0}[d.roll(4)]}
			if m.Parent >= 0 && out.Members[m.Parent].Formula != "" {
				m.Parent = -1
			}
			if d.roll(4) == 0 {
				m.Formula = d.expression(names, 1+d.roll(5))
			}
			out.Members = append(out.Members, m)
		}
		if _, err := rules.Check(out); err == nil {
			return out
		}
	}
}

// outline of at least two dims.
func (d *dice) outline() api.Outline {
	var o api.Outline
	dims := 2 + d.roll(3)
	most := []int{8, 5, 4}[dims-2]
	for i := range dims {
		o.Dims = append(o.Dims, d.dim(string(rune('w'+i)), 1+d.roll(most)))
	}
	return o
}

// place anywhere in a cube.
func (d *dice) place(o api.Outline) api.Place {
	var p api.Place
	for _, dim := range o.Dims {
		p = append(p, d.roll(len(dim.Members)))
	}
	return p
}

// written at some places of leafs.
func (d *dice) written(t *testing.T, o api.Outline) []api.Entry {
	t.Helper()
	count, err := place.Cells(o)
	if err != nil {
		t.Fatal(err)
	}
	var out []api.Entry
	for n := range count {
		p, err := place.Of(o, n)
		if err != nil {
			t.Fatal(err)
		}
		if leaf, _ := place.Leaf(o, p); leaf && d.roll(3) > 0 {
			out = append(out, api.Entry{At: p, N: []int{0, 1, -1, 7, -30, 200, api.MaxInput, -api.MaxInput}[d.roll(8)]})
		}
	}
	return out
}

// byValues is the grid of what chapter 11 tells at one place after another.
func byValues(t *testing.T, o api.Outline, l []api.Entry, at api.Place, row, col int) api.Grid {
	t.Helper()
	var g api.Grid
	for c := range o.Dims[col].Members {
		g.Cols = append(g.Cols, c)
	}
	for r := range o.Dims[row].Members {
		g.Rows = append(g.Rows, r)
		var cells []api.Cell
		for c := range o.Dims[col].Members {
			p := slices.Clone(at)
			p[row], p[col] = r, c
			v, err := solve.Value(o, l, p)
			if err != nil {
				t.Fatal(err)
			}
			cells = append(cells, v)
		}
		g.Cells = append(g.Cells, cells)
	}
	return g
}

// textOf a grid, written word by word.
func textOf(o api.Outline, g api.Grid, row, col int) string {
	text := "-"
	for _, c := range g.Cols {
		text += " " + o.Dims[col].Members[c].Name
	}
	for i, r := range g.Rows {
		text += "/" + o.Dims[row].Members[r].Name
		for _, c := range g.Cells[i] {
			switch c.Kind {
			case api.Empty:
				text += " -"
			case api.Fault:
				text += " #"
			default:
				text += " " + strconv.Itoa(c.N)
			}
		}
	}
	return text
}

// Many cubes: each grid is what chapter 11 tells place by place, and turns and is written as it stands.
func TestManyCubes(t *testing.T) {
	d := dice(15)
	kinds := make([]int, 3)
	for range 1200 {
		o := d.outline()
		l := d.written(t, o)
		for row := range o.Dims {
			for col := range row {
				at := d.place(o)
				g := byValues(t, o, l, at, row, col)
				madeOne(t, o, l, at, row, col, g)
				turnedOne(t, g, turned(g))
				linesOne(t, o, g, row, col, textOf(o, g, row, col))
				linesOne(t, o, turned(g), col, row, textOf(o, turned(g), col, row))
				for _, cells := range g.Cells {
					for _, c := range cells {
						kinds[c.Kind]++
					}
				}
			}
		}
		if t.Failed() {
			t.FailNow()
		}
	}
	if slices.Min(kinds) < 500 {
		t.Errorf("there were few of some kind: %v", kinds)
	}
}

// wrongOutlines are what chapter 10 finds wrong.
func wrongOutlines() []api.Outline {
	great := strings.Repeat(" a:-1:1:", 13)
	return []api.Outline{
		{}, {Dims: []api.Dim{}}, {Dims: make([]api.Dim, 2)}, {Dims: make([]api.Dim, 5)}, {Dims: make([]api.Dim, 100_000)},
		cube("x 0", "y 0 a:-1:1:"), cube("x 0 a:-1:1:", "y 0"), cube("X 0 a:-1:1:", "y 0 a:-1:1:"), cube("x 10 a:-1:1:", "y 0 a:-1:1:"), cube("x 0 a:-1:1:", "y -1 a:-1:1:"), cube("x 0"+great, "y 0 a:-1:1:"), cube("x 0 a:-1:1:", "x 0 a:-1:1:"),
		cube("x 0 A:-1:1:", "y 0 a:-1:1:"), cube("x 0 a:-1:1: a:-1:1:", "y 0 a:-1:1:"), cube("x 0 a:0:1:", "y 0 a:-1:1:"), cube("x 0 a:-1:1:", "y 0 a:-2:1:"), cube("x 0 a:-1:2:", "y 0 a:-1:1:"), cube("x 0 a:-1:1:1 b:0:1:", "y 0 a:-1:1:"), cube("x 0 a:-1:1:"+strings.Repeat("1", 101), "y 0 a:-1:1:"),
		cube("x 0 a:-1:1:a+", "y 0 a:-1:1:"), cube("x 0 a:-1:1:", "y 0 a:-1:1:b"), cube("x 0 a:-1:1:1000001", "y 0 a:-1:1:"), cube("x 0 a:-1:1:", "y 0 a:-1:1:1"+strings.Repeat("+1", 15)),
		cube("x 0 a:-1:1:a", "y 0 a:-1:1:"), cube("x 0 a:-1:1:", "y 0 a:-1:1:b b:-1:1:a"), cube("x 0 a:-1:1: b:0:1:a", "y 0 a:-1:1:"), cube("x 0 a:-1:1:a", "y 0 A:-1:1:"),
	}
}

// Chapter 10's error comes ahead of all else in Make. Lines asks no more than chapter 2 does: what a formula says does not matter there.
func TestWrongOutlines(t *testing.T) {
	made, written := make([]int, 9), make([]int, 9)
	wrong := api.Grid{Rows: numbers("0")}
	for _, o := range wrongOutlines() {
		_, _, err := rules.All(o)
		e := plain.Told(err)
		made[e]++
		notMade(t, o, nil, api.Place{0, 0}, 0, 1, e)
		notMade(t, o, entries("0.0=9999999"), api.Place{0, 0}, 0, 1, e)
		notMade(t, o, []api.Entry{{}}, nil, 7, 7, e)
		_, _, err = outline.All(o)
		if e = plain.Told(err); e == api.OK {
			linesOne(t, o, gridOf("0", "0", "7"), 0, 1, "- a/a 7")
			noLines(t, o, wrong, 0, 1, api.ErrShape)
			continue
		}
		written[e]++
		noLines(t, o, gridOf("0", "0", "7"), 0, 1, e)
		noLines(t, o, api.Grid{}, 0, 1, e)
		noLines(t, o, wrong, 7, 7, e)
	}
	for _, e := range []api.Errno{api.ErrRange, api.ErrSyntax, api.ErrFull, api.ErrNone, api.ErrState, api.ErrClash} {
		if made[e] == 0 || written[e] == 0 {
			t.Errorf("%v was not told", e)
		}
	}
	if made[api.ErrCycle] == 0 || made[api.OK] > 0 {
		t.Errorf("told were %v", made)
	}
}

// Chapter 5's Check comes next, then the place, then the dims' numbers, then that they are the same.
func TestWrongMakes(t *testing.T) {
	o, l := shop("1", "0"), entries(shopEntries)
	for text, e := range map[string]api.Errno{
		"1=1": api.ErrShape, "4.1=1": api.ErrRange, "1.3=1": api.ErrRange, "0.1=1": api.ErrState, "3.1=1": api.ErrState, "1.1=1000001": api.ErrRange, "1.1=-9223372036854775808": api.ErrRange, "1.1=1 1.1=1": api.ErrClash, "2.1=1 1.2=1": api.ErrClash, "3.1=1 1=1": api.ErrState,
	} {
		bad := entries(text)
		if err := input.Check(o, bad); plain.Told(err) != e {
			t.Fatalf("%q: chapter 5 tells %v, not %v", text, err, e)
		}
		notMade(t, o, bad, api.Place{0, 0}, 0, 1, e)
		notMade(t, o, bad, api.Place{0}, 0, 1, e)
		notMade(t, o, bad, api.Place{9, 9}, 0, 0, e)
		notMade(t, o, bad, api.Place{0, 0}, 2, -1, e)
		notMade(t, o, bad, api.Place{0, 0}, 1, 1, e)
	}
	for _, p := range []api.Place{nil, {}, {0}, {0, 0, 0}, {9}, make(api.Place, 100_000)} {
		notMade(t, o, l, p, 0, 1, api.ErrShape)
		notMade(t, o, l, p, 0, 2, api.ErrShape)
		notMade(t, o, l, p, -1, -1, api.ErrShape)
	}
	// A member that is none is told, though one of the grid's own stands in its stead.
	for _, p := range []api.Place{{-1, 0}, {4, 0}, {0, -1}, {0, 3}, {math.MinInt, 0}, {0, math.MaxInt}} {
		notMade(t, o, l, p, 0, 1, api.ErrRange)
		notMade(t, o, l, p, 1, 0, api.ErrRange)
		notMade(t, o, l, p, 1, 1, api.ErrRange)
	}
	for _, k := range []int{-1, 2, 3, 4, math.MinInt, math.MaxInt} {
		notMade(t, o, l, api.Place{0, 0}, 0, k, api.ErrRange)
		notMade(t, o, l, api.Place{0, 0}, k, 1, api.ErrRange)
		notMade(t, o, l, api.Place{0, 0}, k, k, api.ErrRange)
	}
	notMade(t, o, l, api.Place{0, 0}, 0, 0, api.ErrShape)
	notMade(t, o, l, api.Place{3, 2}, 1, 1, api.ErrShape)
	// Of one dim there is no grid.
	notMade(t, cube("x 0 a:-1:1:"), nil, api.Place{0}, 0, 0, api.ErrShape)
	notMade(t, cube("x 0 a:-1:1:"), nil, api.Place{0}, 0, 1, api.ErrRange)
}

// A grid is right, whatever its rows and columns are, if there are as many cells.
func TestShapes(t *testing.T) {
	turnedOne(t, api.Grid{}, api.Grid{})
	turnedOne(t, api.Grid{Rows: []int{}, Cols: []int{}, Cells: [][]api.Cell{}}, api.Grid{})
	turnedOne(t, gridOf("", "4 5 6"), gridOf("4 5 6", "", "", "", ""))
	turnedOne(t, gridOf("7", "", ""), gridOf("", "7"))
	turnedOne(t, gridOf("7", "8", "-"), gridOf("8", "7", "-"))
	turnedOne(t, gridOf("3 3 -1", "9223372036854775807 0", "1 2", "# -", "-5 1000000000000"), gridOf("9223372036854775807 0", "3 3 -1", "1 # -5", "2 - 1000000000000"))
	one := []api.Cell{cell.Of(1)}
	for _, g := range []api.Grid{
		{Rows: []int{0}}, {Cells: [][]api.Cell{nil}}, {Cells: [][]api.Cell{one}}, {Rows: []int{0}, Cols: []int{0}}, {Rows: []int{0}, Cols: []int{0}, Cells: [][]api.Cell{nil}}, {Rows: []int{0}, Cells: [][]api.Cell{one}}, {Cols: []int{0}, Cells: [][]api.Cell{one}},
		{Rows: []int{0}, Cols: []int{0}, Cells: [][]api.Cell{one, one}}, {Rows: []int{0, 1}, Cols: []int{0}, Cells: [][]api.Cell{one}}, {Rows: []int{0, 1}, Cols: []int{0}, Cells: [][]api.Cell{{cell.Of(1), cell.Of(1)}}},
		{Rows: []int{0, 1, 2}, Cols: []int{0}, Cells: [][]api.Cell{one, one, {cell.Of(1), cell.Of(1)}}}, {Rows: []int{0, 1, 2}, Cols: []int{0}, Cells: [][]api.Cell{one, nil, one}}, {Rows: []int{0, 1, 2}, Cells: [][]api.Cell{nil, nil, one}}, {Rows: make([]int, 100_000)}, {Cells: make([][]api.Cell, 100_000)},
	} {
		wrongOne(t, g, api.ErrShape)
		// No cell is looked at ahead of the shape, nor a row's member.
		for i := range g.Cells {
			for k := range g.Cells[i] {
				bad := copyOf(g)
				bad.Cells[i][k] = api.Cell{Kind: 9}
				wrongOne(t, bad, api.ErrShape)
			}
		}
		if len(g.Rows) > 0 {
			g.Rows[0] = 99
			wrongOne(t, g, api.ErrShape)
		}
	}
}

// Every cell is asked for by chapter 1, wherever it stands.
func TestWrongCells(t *testing.T) {
	for r := range 4 {
		for c := range 3 {
			for _, bad := range []api.Cell{{Kind: 3}, {Kind: -1}, {Kind: math.MaxInt}, {Kind: math.MinInt}, {Kind: api.Empty, N: 1}, {Kind: api.Fault, N: -1}, {Kind: api.Number, N: api.MaxValue + 1}, {Kind: api.Number, N: -api.MaxValue - 1}, {Kind: api.Number, N: math.MinInt}} {
				g := shopGrid()
				g.Cells[r][c] = bad
				wrongOne(t, g, api.ErrRange)
				g.Cells[0] = g.Cells[0][:2]
				wrongOne(t, g, api.ErrShape)
			}
			for _, good := range []api.Cell{{}, {Kind: api.Fault}, {Kind: api.Number, N: api.MaxValue}, {Kind: api.Number, N: -api.MaxValue}} {
				g := shopGrid()
				g.Cells[r][c] = good
				turnedOne(t, g, turned(g))
				linesOne(t, shop("1", "0"), g, 0, 1, textOf(shop("1", "0"), g, 0, 1))
			}
		}
	}
}

// Lines writes a grid as it stands: members in any order, more than once, or none; of one dim, too.
func TestLines(t *testing.T) {
	o := shop("1", "0")
	linesOne(t, o, api.Grid{}, 0, 1, "-")
	linesOne(t, o, gridOf("", "2 0"), 0, 1, "- autumn year")
	linesOne(t, o, gridOf("3 1", "", "", ""), 0, 1, "-/margin/sales")
	linesOne(t, o, gridOf("2 0 2", "1 1", "1 #", "- 0", "-3 4"), 0, 1, "- spring spring/costs 1 #/profit - 0/costs -3 4")
	linesOne(t, o, gridOf("0 3", "3", "1", "2"), 0, 0, "- margin/profit 1/margin 2")
	linesOne(t, o, api.Grid{}, 1, 1, "-")
	linesOne(t, cube("x 0 a:-1:1:"), gridOf("0", "0", "8"), 0, 0, "- a/a 8")
	g := gridOf("0", "0", "8")
	for _, k := range []int{-1, 2, 3, 4, math.MinInt, math.MaxInt} {
		for _, g := range []api.Grid{{}, g} {
			noLines(t, o, g, 0, k, api.ErrRange)
			noLines(t, o, g, k, 1, api.ErrRange)
			noLines(t, o, g, k, k, api.ErrRange)
		}
	}
	// Rows are of the dim row, and Cols of col.
	linesOne(t, o, gridOf("3", "2", "8"), 0, 1, "- autumn/margin 8")
	for _, g := range []api.Grid{gridOf("3", "3", "8"), gridOf("4", "2", "8"), gridOf("-1", "2", "8"), gridOf("3", "-1", "8"), gridOf("0 1 4", "", "", "", ""), gridOf("", "0 1 2 3"), gridOf("9223372036854775807", "", ""), gridOf("", "-9223372036854775808")} {
		noLines(t, o, g, 0, 1, api.ErrRange)
		turnedOne(t, g, turned(g))
	}
	noLines(t, o, gridOf("3", "2", "8"), 1, 0, api.ErrRange)
	noLines(t, o, gridOf("3", "2", "8"), 1, 1, api.ErrRange)
	linesOne(t, o, gridOf("3", "2", "8"), 0, 0, "- costs/margin 8")
}

// A grid may be far greater than one that is made.
func TestGreatGrids(t *testing.T) {
	g := api.Grid{Rows: make([]int, 1000), Cols: make([]int, 700)}
	for r := range g.Rows {
		g.Rows[r] = r % 4
		row := make([]api.Cell, 700)
		for c := range row {
			row[c] = cell.Of(r*1000 + c)
		}
		g.Cells = append(g.Cells, row)
	}
	for c := range g.Cols {
		g.Cols[c] = c % 3
	}
	turn, err := grid.Turn(g)
	if err != nil || !sameGrid(turn, turned(g)) {
		t.Errorf("Turn of a great grid: %v", err)
	}
	lines, err := grid.Lines(shop("1", "0"), g, 0, 1)
	if err != nil || len(lines) != 1001 || strings.Count(lines[0], " ") != 700 || !strings.HasPrefix(lines[1000], "margin 999000 999001 ") || !strings.HasSuffix(lines[1000], " 999698 999699") {
		t.Errorf("Lines of a great grid: %d, %v", len(lines), err)
	}
	g.Cells[999][699].Kind = api.Fault
	if err := grid.Check(g); plain.Told(err) != api.ErrRange {
		t.Errorf("Check of a great grid, the last cell of which is wrong: %v", err)
	}
}

// P2: what is handed in stays as it was, what lies behind its length is not read, and what is told hangs on it alone.
func TestNothingWrittenOrKept(t *testing.T) {
	o, l := shop("1", "0"), entries(shopEntries)
	o.Dims = append(make([]api.Dim, 0, 4), o.Dims...)
	o.Dims[:3][2] = api.Dim{Name: "X", Solve: 99}
	o.Dims[1].Members = append(make([]api.Member, 0, 5), o.Dims[1].Members...)
	o.Dims[1].Members[:4][3] = api.Member{Name: "X", Parent: 0, Sign: 1, Formula: "+"}
	l = append(make([]api.Entry, 0, 9), l...)
	l[:5][4] = api.Entry{At: api.Place{9}, N: -1}
	at := append(make(api.Place, 0, 4), 2, 1)
	at[:3][2] = 9
	g := shopGrid()
	g.Rows = append(make([]int, 0, 9), g.Rows...)
	g.Rows[:5][4] = 99
	g.Cols = append(make([]int, 0, 9), g.Cols...)
	g.Cols[:4][3] = 99
	g.Cells = append(make([][]api.Cell, 0, 9), g.Cells...)
	g.Cells[:5][4] = []api.Cell{{Kind: 9}}
	g.Cells[1] = append(make([]api.Cell, 0, 9), g.Cells[1]...)
	g.Cells[1][:4][3] = api.Cell{Kind: 9}
	for range 2 {
		madeOne(t, o, l, at, 0, 1, shopGrid())
		turnedOne(t, g, turned(shopGrid()))
		linesOne(t, o, g, 0, 1, textOf(shop("1", "0"), shopGrid(), 0, 1))
	}
	if !reflect.DeepEqual(o, shop("1", "0")) || !reflect.DeepEqual(l, entries(shopEntries)) || !slices.Equal(at, api.Place{2, 1}) || !reflect.DeepEqual(g, shopGrid()) {
		t.Errorf("what was handed in was written into: %v, %v, %v, %v", o, l, at, g)
	}
	if o.Dims[:3][2].Solve != 99 || o.Dims[1].Members[:4][3].Formula != "+" || l[:5][4].N != -1 || at[:3][2] != 9 || g.Rows[:5][4] != 99 || g.Cols[:4][3] != 99 || len(g.Cells[:5][4]) != 1 || g.Cells[1][:4][3].Kind != 9 {
		t.Error("what lies behind was written into")
	}
	// Each call is told what it is given then, whatever came out ahead.
	l[0].N = 170
	want := gridOf("0 1 2 3", "0 1 2", "100 20 80", "270 170 100", "170 150 20", "37 11 80")
	madeOne(t, o, l, at, 0, 1, want)
	g.Cells[0][0] = cell.Of(-1)
	want = shopGrid()
	want.Cells[0][0] = cell.Of(-1)
	turnedOne(t, g, turned(want))
}

// lists of numbers and of cells that a grid has.
func lists(g api.Grid) ([][]int, [][]api.Cell) {
	return [][]int{g.Rows, g.Cols}, g.Cells
}

// spoil all that the memory of one list of a grid holds.
func spoil(g api.Grid, which int) {
	places, cells := lists(g)
	if which < len(places) {
		l := places[which][:cap(places[which])]
		for i := range l {
			l[i] = -7
		}
		return
	}
	row := cells[which-len(places)]
	row = row[:cap(row)]
	for i := range row {
		row[i] = api.Cell{Kind: 9, N: 9}
	}
}

// P2: what comes out is the caller's: no two lists of it share memory, and none is shared with what was handed in or comes out again.
func TestFreshMemory(t *testing.T) {
	o, l := shop("1", "0"), entries(shopEntries)
	given := shopGrid()
	makes := []func() (api.Grid, error){
		func() (api.Grid, error) { return grid.Make(o, l, api.Place{0, 0}, 0, 1) },
		func() (api.Grid, error) { return grid.Turn(given) },
	}
	for i, of := range makes {
		for which := range 5 {
			got, err := of()
			if err != nil {
				t.Fatal(err)
			}
			want := copyOf(got)
			spoil(got, which)
			spoil(want, which)
			if !sameGrid(got, want) {
				t.Errorf("two lists of %d share memory with list %d: %v, want %v", i, which, got, want)
			}
			clear(got.Cells)
		}
	}
	if !sameGrid(given, shopGrid()) {
		t.Errorf("what was handed in is shared: %v", given)
	}
	madeOne(t, o, l, api.Place{0, 0}, 0, 1, shopGrid())
	lines, err := grid.Lines(o, given, 0, 1)
	if err != nil {
		t.Fatal(err)
	}
	clear(lines[:cap(lines)])
	linesOne(t, o, given, 0, 1, textOf(o, shopGrid(), 0, 1))
	// Rows of one list turn to rows that are apart.
	row := []api.Cell{cell.Of(1), cell.Of(2)}
	shared := api.Grid{Rows: []int{0, 1}, Cols: []int{0, 1}, Cells: [][]api.Cell{row, row}}
	shared.Cols = shared.Rows
	got, err := grid.Turn(shared)
	if err != nil || !sameGrid(got, gridOf("0 1", "0 1", "1 1", "2 2")) {
		t.Fatalf("Turn(%v) = %v, %v", shared, got, err)
	}
	got.Rows[0], got.Cells[0][0] = 9, cell.Of(9)
	if !sameGrid(got, gridOf("9 1", "0 1", "9 1", "2 2")) || !sameGrid(shared, gridOf("0 1", "0 1", "1 2", "1 2")) {
		t.Errorf("memory is shared: %v, %v", got, shared)
	}
}
