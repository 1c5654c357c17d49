package sheet_test

import (
	"fmt"
	"math"
	"reflect"
	"regexp"
	"slices"
	"strconv"
	"strings"
	"testing"

	"tallyhall/api"
	"tallyhall/input"
	"tallyhall/place"
	"tallyhall/plain"
	"tallyhall/rules"
	"tallyhall/sheet"
)

// cube reads dims, of each its name, its solve, and members as name:parent:sign:formula, blanks between.
func cube(dims ...string) api.Outline {
	var o api.Outline
	for _, text := range dims {
		w := strings.Fields(text)
		d := api.Dim{Name: w[0], Solve: number(w[1])}
		for _, m := range w[2:] {
			p := strings.Split(m, ":")
			d.Members = append(d.Members, api.Member{Name: p[0], Parent: number(p[1]), Sign: number(p[2]), Formula: p[3]})
		}
		o.Dims = append(o.Dims, d)
	}
	return o
}

// entries reads places with numbers, as 1.0=7, blanks between.
func entries(text string) []api.Entry {
	var out []api.Entry
	for _, w := range strings.Fields(text) {
		at, n, _ := strings.Cut(w, "=")
		var p api.Place
		for _, m := range strings.Split(at, ".") {
			p = append(p, number(m))
		}
		out = append(out, api.Entry{At: p, N: number(n)})
	}
	return out
}

func number(text string) int {
	n, err := strconv.Atoi(text)
	if err != nil {
		panic(err)
	}
	return n
}

// text of lines, / between, each ended; a formula's own / is written as :.
func text(lines string) string {
	return strings.ReplaceAll(strings.ReplaceAll(lines, "/", "\n"), ":", "/") + "\n"
}

// same tells whether two cubes are; an empty list and none are the same.
func same(a api.Outline, l []api.Entry, b api.Outline, m []api.Entry) bool {
	return reflect.DeepEqual(a, b) && (len(l) == 0 && len(m) == 0 || reflect.DeepEqual(l, m))
}

// bothWays: a cube is written as the text, and the text is read as the cube.
func bothWays(t *testing.T, o api.Outline, l []api.Entry, want string) {
	t.Helper()
	if got, err := sheet.Print(o, l); err != nil || got != want {
		t.Errorf("Print(%v, %v) = %q, %v, want %q", o, l, got, err, want)
	}
	if p, m, at, err := sheet.Parse(want); err != nil || at != 0 || !same(p, m, o, l) {
		t.Errorf("Parse(%q) = %v, %v, %d, %v, want %v, %v", want, p, m, at, err, o, l)
	}
}

// notPrinted: Print tells an error, and nothing else.
func notPrinted(t *testing.T, o api.Outline, l []api.Entry, e api.Errno) {
	t.Helper()
	if got, err := sheet.Print(o, l); got != "" || plain.Told(err) != e {
		t.Errorf("Print(%v, %v) = %q, %v, want %v", o, l, got, err, e)
	}
}

// notParsed: Parse tells a line's number, an error, and nothing else.
func notParsed(t *testing.T, text string, at int, e api.Errno) {
	t.Helper()
	o, l, n, err := sheet.Parse(text)
	if len(o.Dims) != 0 || len(l) != 0 || n != at || plain.Told(err) != e {
		t.Errorf("Parse(%.300q) = %v, %v, %d, %v, want %d, %v", text, o, l, n, err, at, e)
	}
}

// shop has accounts, of which the margin has a formula, and times.
func shop() api.Outline {
	return cube("account 1 profit:-1:1: sales:0:1: costs:0:-1: margin:-1:0:profit*100/sales", "time 0 year:-1:1: spring:0:1: autumn:0:1:")
}

const shopEntries = "1.1=200 1.2=0 2.1=-150 2.2=20"

const shopLines = "dim account 1/mem profit - +/mem sales 0 +/mem costs 0 -/mem margin - ~=profit*100:sales/dim time 0/mem year - +/mem spring 0 +/mem autumn 0 +/cell sales.spring 200/cell sales.autumn 0/cell costs.spring -150/cell costs.autumn 20"

func TestOrdinary(t *testing.T) {
	bothWays(t, shop(), entries(shopEntries), text(shopLines))
	bothWays(t, shop(), nil, text(shopLines[:strings.Index(shopLines, "/cell")]))
	bothWays(t, cube("x 0 a:-1:1:"), nil, text("dim x 0/mem a - +"))
	bothWays(t, cube("x 0 a:-1:1:"), entries("0=0"), text("dim x 0/mem a - +/cell a 0"))
	// Every sign, with and without a formula, as a part and as none.
	bothWays(t, cube("x 3 a:-1:1: b:-1:-1: c:-1:0: d:0:1: e:0:-1: f:0:0:"), entries("1=1 3=-1"), text("dim x 3/mem a - +/mem b - -/mem c - ~/mem d 0 +/mem e 0 -/mem f 0 ~/cell b 1/cell d -1"))
	bothWays(t, cube("x 9 z:-1:1: a:-1:1:1 b:-1:-1:a*(2+z) c:0:0:b"), nil, text("dim x 9/mem z - +/mem a - +=1/mem b - -=a*(2+z)/mem c 0 ~=b"))
	// Formulas stand as they were written, however Print of chapter 8 would.
	bothWays(t, cube("x 0 a:-1:1:((b)) b:-1:1:"), entries("1=5"), text("dim x 0/mem a - +=((b))/mem b - +/cell b 5"))
}

// The greatest names, numbers, formulas and cubes.
func TestEdges(t *testing.T) {
	bothWays(t, cube("abcdefgh 9 zyxwvuts:-1:1:"), entries("0=1000000"), text("dim abcdefgh 9/mem zyxwvuts - +/cell zyxwvuts 1000000"))
	bothWays(t, cube("x 9 a:-1:1:"), entries("0=-1000000"), text("dim x 9/mem a - +/cell a -1000000"))
	notParsed(t, text("dim abcdefghi 9/mem a - +"), 0, api.ErrSyntax)
	notParsed(t, text("dim x 9/mem abcdefghi - +"), 0, api.ErrSyntax)
	notParsed(t, text("dim x 10/mem a - +"), 0, api.ErrRange)
	notParsed(t, text("dim x 9/mem a - +/cell a 1000001"), 0, api.ErrRange)
	notParsed(t, text("dim x 9/mem a - +/cell a -1000001"), 0, api.ErrRange)
	notParsed(t, text("dim x 9/mem a - +/cell a -9999999"), 0, api.ErrRange)
	// Names may be the words that lines begin with.
	bothWays(t, cube("dim 1 mem:-1:1: cell:0:1:", "mem 1 cell:-1:1:"), entries("1.0=7"), text("dim dim 1/mem mem - +/mem cell 0 +/dim mem 1/mem cell - +/cell cell.cell 7"))
	long := strings.Repeat("(", 49) + "10" + strings.Repeat(")", 49)
	bothWays(t, cube("x 0 a:-1:1:"+long), nil, "dim x 0\nmem a - +="+long+"\n")
	notParsed(t, "dim x 0\nmem a - +=("+long+")\n", 0, api.ErrFull)
	// A chain of twelve members, whose parents have two digits in the end.
	chain, lines := "x 0 a:-1:1:", "dim x 0/mem a - +"
	for i := 1; i < 12; i++ {
		name := string(rune('a' + i))
		chain += fmt.Sprintf(" %s:%d:1:", name, i-1)
		lines += fmt.Sprintf("/mem %s %d +", name, i-1)
	}
	bothWays(t, cube(chain), entries("11=3"), text(lines+"/cell l 3"))
	notParsed(t, text(lines+"/mem m - +"), 0, api.ErrFull)
	// The greatest cube: 3000 places, all of them written.
	var o api.Outline
	var l []api.Entry
	want := ""
	for i, size := range []int{12, 10, 5, 5} {
		d := api.Dim{Name: string(rune('w' + i)), Solve: i}
		want += fmt.Sprintf("dim %c %d\n", 'w'+i, i)
		for k := range size {
			d.Members = append(d.Members, api.Member{Name: string(rune('a' + k)), Parent: -1, Sign: 1})
			want += fmt.Sprintf("mem %c - +\n", 'a'+k)
		}
		o.Dims = append(o.Dims, d)
	}
	for n := range 3000 {
		p := api.Place{n / 250, n / 25 % 10, n / 5 % 5, n % 5}
		l = append(l, api.Entry{At: p, N: n - 1500})
		want += fmt.Sprintf("cell %c.%c.%c.%c %d\n", 'a'+p[0], 'a'+p[1], 'a'+p[2], 'a'+p[3], n-1500)
	}
	bothWays(t, o, l, want)
	notParsed(t, strings.Replace(want, "mem e - +\ncell", "mem e - +\nmem f - +\ncell", 1), 0, api.ErrFull)
	notParsed(t, strings.Replace(want, "dim z 3\n", "dim z 3\nmem e - +\ndim zz 3\n", 1), 0, api.ErrFull)
	notParsed(t, want+"cell l.j.e.e 1\n", 0, api.ErrClash)
	notParsed(t, want+"cell l.j.e.f 1\n", 3036, api.ErrNone)
}

// Lines that are none by themselves, wherever they stand.
func TestWrongLines(t *testing.T) {
	wrong := []string{
		"", " ", "x", "dim", "mem", "cell", "Dim x 0", "dims x 0", "di x 0", "DIM x 0", "mem\ta - +", "# dim x 0", "-", "0",
		"dim x", "dim x ", "dim 0", "dim  0", "dim x  0", "dim  x 0", " dim x 0", "dim x 0 ", "dim x 0 0", "dim x 0 0 0", "dim x 0 0 0 0", "dim x y", "dim x -", "dim x -1", "dim x +1", "dim x -0", "dim x 00", "dim x 01", "dim x 10000000", "dim x 00000001", "dim x 99999999999999999999", "dim x 0x1", "dim x 1_0", "dim x 1.0", "dim x 1e1", "dim x ~", "dim x. 0", "dim .x 0", "dim . 0", "dim = 0", "dim x= 0", "dim x=y 0", "dim x 0=", "dim x 0=a", "dim x 0\r", "dim\tx 0", "dim x\t0", "dim x 0\t", "dim x \xff", "dim x ٣",
		"mem a", "mem a -", "mem a +", "mem a - ", "mem a  +", "mem  - +", "mem a -  +", "mem a  - +", "mem  a - +", " mem a - +", "mem a - + ", "mem a - + =b", "mem a - +=b ", "mem a - += b", "mem a - +=b c", "mem a - +=b c d", "mem a - =b", "mem a - b", "mem a - b=+", "mem a - +=", "mem a - -=", "mem a - ~=", "mem a - ==b", "mem a - =", "mem a - ++", "mem a - +-", "mem a - +b", "mem a - 1", "mem a - 0", "mem a - -1", "mem a - *", "mem a + +", "mem a ~ +", "mem a -1 +", "mem a -0 +", "mem a +0 +", "mem a 00 +", "mem a 01 +", "mem a b +", "mem a -- +", "mem a 10000000 +", "mem a 0=b +", "mem a.b - +", "mem . - +", "mem a=b - +", "mem a= - +", "mem = - +", "mem =a - +", "mem a - +\r", "mem a - \xff", "mem a -+", "mem a-+",
		"cell a", "cell a ", "cell 5", "cell  5", "cell a  5", "cell  a 5", " cell a 5", "cell a 5 ", "cell a 5 5", "cell a - 5", "cell a a", "cell a -", "cell a --5", "cell a +5", "cell a -0", "cell a 00", "cell a 05", "cell a -05", "cell a 10000000", "cell a -10000000", "cell a 0000001", "cell a 9223372036854775808", "cell a #", "cell a 5.0", "cell a 5=", "cell a 5\r", "cell a=a 5", "cell a=5", "cell = 5", "cell a= 5", "cell a.=b 5", "cell . 5", "cell .a 5", "cell a. 5", "cell a..a 5", "cell .. 5", "cell a.a. 5", "cell .a.a 5", "cell a. a 5", "cells a 5", "cell a,a 5,5",
	}
	lines := strings.SplitAfter(text(shopLines), "\n")
	lines = lines[:len(lines)-1]
	for _, w := range wrong {
		notParsed(t, w+"\n", 0, api.ErrSyntax)
		for i := 0; i <= len(lines); i++ {
			with := strings.Join(lines[:i], "") + w + "\n" + strings.Join(lines[i:], "")
			notParsed(t, with, i, api.ErrSyntax)
		}
		// The first one is told.
		notParsed(t, text("dim x 0")+w+"\n"+w+"\n", 1, api.ErrSyntax)
		notParsed(t, text("dim x 0/mem a - +/cell a 5/dim y 0")+w+"\n", 3, api.ErrSyntax)
	}
}

// Lines that are such, but stand where they cannot.
func TestWrongOrder(t *testing.T) {
	notParsed(t, text("mem a - +"), 0, api.ErrSyntax)
	notParsed(t, text("mem a - +/dim x 0/mem a - +"), 0, api.ErrSyntax)
	notParsed(t, text("dim x 0/mem a - +/cell a 5/mem b - +"), 3, api.ErrSyntax)
	notParsed(t, text("dim x 0/mem a - +/cell a 5/dim y 0"), 3, api.ErrSyntax)
	notParsed(t, text("dim x 0/mem a - +/cell a 5/dim y 0/mem a - +/cell a.a 5"), 3, api.ErrSyntax)
	notParsed(t, text("dim x 0/mem a - +/cell a 5/cell a 5/cell a 5/mem b 0 +/cell a 5"), 5, api.ErrSyntax)
	// A cell may stand ahead of all, as far as its line goes: then there is no dim.
	notParsed(t, text("cell a 5"), 0, api.ErrNone)
	notParsed(t, text("cell a 5/cell b 6"), 0, api.ErrNone)
	notParsed(t, text("cell a 5/dim x 0/mem a - +"), 1, api.ErrSyntax)
	notParsed(t, text("cell a 5/mem a - +/dim x 0"), 1, api.ErrSyntax)
	notParsed(t, "", 0, api.ErrNone)
	notParsed(t, "\n", 0, api.ErrSyntax)
}

// Every line ends, the last one too; of a line that does not, that alone is told.
func TestEnds(t *testing.T) {
	whole := text(shopLines)
	for i := range whole {
		cut := whole[:i]
		if ends := strings.Count(cut, "\n"); i > 0 && !strings.HasSuffix(cut, "\n") {
			notParsed(t, cut, ends, api.ErrSyntax)
		}
		asked(t, cut)
		asked(t, cut+"\n")
		asked(t, cut+"\n\n")
		asked(t, cut+"\n"+whole[i:])
	}
	// What is cut between two cells is a cube all the same.
	for i := range 4 {
		lines := strings.SplitAfter(whole, "\n")[:9+i]
		bothWays(t, shop(), entries(shopEntries)[:i], strings.Join(lines, ""))
	}
	notParsed(t, "dim x 0\nmem a - +=a", 1, api.ErrSyntax)
	notParsed(t, "dim X 0\nmem a - +\ncell b 5", 2, api.ErrSyntax)
	notParsed(t, whole+"\n", 13, api.ErrSyntax)
	notParsed(t, whole+" ", 13, api.ErrSyntax)
	notParsed(t, whole+"\x00", 13, api.ErrSyntax)
	notParsed(t, strings.ReplaceAll(whole, "\n", "\r\n"), 0, api.ErrSyntax)
	notParsed(t, strings.ReplaceAll(whole, "\n", "\r"), 0, api.ErrSyntax)
}

// What lines are, another way.
var (
	dimLine    = regexp.MustCompile(`^dim ([^ =.]+) (0|[1-9][0-9]{0,6})$`)
	memberLine = regexp.MustCompile(`^mem ([^ =.]+) (-|0|[1-9][0-9]{0,6}) ([-+~])(?:=([^ ]+))?$`)
	cellLine   = regexp.MustCompile(`^cell ([^ =.]+(?:\.[^ =.]+)*) (0|-?[1-9][0-9]{0,6})$`)
)

// said by a line of a text.
type said struct {
	line  int
	kind  string
	words []string
}

// firstWrong line of a text, or what all of them say.
func firstWrong(text string) ([]said, int, bool) {
	pieces := strings.Split(text, "\n")
	var out []said
	kinds := ""
	for i, piece := range pieces[:len(pieces)-1] {
		var s said
		for kind, of := range map[string]*regexp.Regexp{"d": dimLine, "m": memberLine, "c": cellLine} {
			if w := of.FindStringSubmatch(piece); w != nil {
				s = said{line: i, kind: kind, words: w[1:]}
			}
		}
		kinds += s.kind
		if s.kind == "" || strings.HasPrefix(kinds, "m") || strings.Contains(kinds, "cd") || strings.Contains(kinds, "cm") {
			return nil, i, false
		}
		out = append(out, s)
	}
	return out, len(pieces) - 1, pieces[len(pieces)-1] == ""
}

// parsed another way: lines by what they match, then the chapters' own errors in their order.
func parsed(text string) (api.Outline, []api.Entry, int, api.Errno) {
	lines, at, ok := firstWrong(text)
	if !ok {
		return api.Outline{}, nil, at, api.ErrSyntax
	}
	var o api.Outline
	for _, s := range lines {
		switch s.kind {
		case "d":
			o.Dims = append(o.Dims, api.Dim{Name: s.words[0], Solve: number(s.words[1])})
		case "m":
			m := api.Member{Name: s.words[0], Parent: -1, Sign: map[string]int{"+": 1, "-": -1}[s.words[2]], Formula: s.words[3]}
			if s.words[1] != "-" {
				m.Parent = number(s.words[1])
			}
			last := len(o.Dims) - 1
			o.Dims[last].Members = append(o.Dims[last].Members, m)
		}
	}
	if _, _, err := rules.All(o); err != nil {
		return api.Outline{}, nil, 0, plain.Told(err)
	}
	var l []api.Entry
	for _, s := range lines {
		if s.kind != "c" {
			continue
		}
		p, err := place.Parse(o, s.words[0])
		if err != nil {
			return api.Outline{}, nil, s.line, plain.Told(err)
		}
		l = append(l, api.Entry{At: p, N: number(s.words[1])})
	}
	if err := input.Check(o, l); err != nil {
		return api.Outline{}, nil, 0, plain.Told(err)
	}
	return o, l, 0, api.OK
}

// asked of a text: it is read as another way tells, and what is read is written as it was. It answers what was told.
func asked(t *testing.T, text string) api.Errno {
	t.Helper()
	o, l, at, err := sheet.Parse(text)
	wantO, wantL, wantAt, e := parsed(text)
	if !same(o, l, wantO, wantL) || at != wantAt || plain.Told(err) != e {
		t.Fatalf("Parse(%q) = %v, %v, %d, %v, want %v, %v, %d, %v", text, o, l, at, err, wantO, wantL, wantAt, e)
	}
	if e == api.OK {
		if again, err := sheet.Print(o, l); err != nil || again != text {
			t.Fatalf("Parse(%q), and Print: %q, %v", text, again, err)
		}
	}
	return e
}

// Any one byte gone, put in, or put in the place of another.
func TestEveryByte(t *testing.T) {
	counts := make([]int, 9)
	for _, whole := range []string{text(shopLines), text("dim x 0/mem a - +=b/mem b - ~/dim y 9/mem a - -/cell b.a 10"), text("dim x 1/mem a - +/mem b 0 -/cell b -7")} {
		for i := range len(whole) + 1 {
			if i < len(whole) {
				counts[asked(t, whole[:i]+whole[i+1:])]++
			}
			for _, c := range []byte(" \n=.-+~0129ablmA\t\r\x00\xff*") {
				counts[asked(t, whole[:i]+string([]byte{c})+whole[i:])]++
				if i < len(whole) {
					counts[asked(t, whole[:i]+string([]byte{c})+whole[i+1:])]++
				}
			}
		}
	}
	for _, e := range []api.Errno{api.OK, api.ErrSyntax, api.ErrRange, api.ErrNone, api.ErrClash, api.ErrState, api.ErrCycle} {
		if counts[e] == 0 {
			t.Errorf("%v was not told: %v", e, counts)
		}
	}
}

// dice that always fall alike.
type dice uint64

func (d *dice) roll(n int) int {
	*d = *d*6364136223846793005 + 1442695040888963407
	return int(uint64(*d) >> 33 % uint64(n))
}

// expression of so many operands, of which some are names.
func (d *dice) expression(names []string, operands int) string {
	if operands > 1 {
		k := 1 + d.roll(operands-1)
		return "(" + d.expression(names, k) + ")" + "+-*/"[d.roll(4):][:1] + "(" + d.expression(names, operands-k) + ")"
	}
	if d.roll(4) > 0 {
		return names[d.roll(len(names))]
	}
	return []string{"0", "1", "2", "10", "1000000"}[d.roll(5)]
}

// dim with formulas, right by chapter 10; names do not rise, so that their order is not that of places.
func (d *dice) dim(name string, size int) api.Dim {
	var names []string
	for i := range size {
		names = append(names, strings.Repeat(string(rune('a'+(i*7+3)%12)), 1+i%8))
	}
	for {
		out := api.Dim{Name: name, Solve: d.roll(10)}
		for i := range size {
			m := api.Member{Name: names[i], Parent: d.roll(i+1) - 1, Sign: d.roll(3) - 1}
			if m.Parent >= 0 && out.Members[m.Parent].Formula != "" {
				m.Parent = -1
			}
			if d.roll(4) == 0 {
				m.Formula = d.expression(names, 1+d.roll(5))
			}
			out.Members = append(out.Members, m)
		}
		if _, err := rules.Check(out); err == nil {
			return out
		}
	}
}

func (d *dice) outline() api.Outline {
	var o api.Outline
	dims := 1 + d.roll(4)
	most := []int{12, 8, 5, 4}[dims-1]
	for i := range dims {
		o.Dims = append(o.Dims, d.dim(string(rune('w'+i)), 1+d.roll(most)))
	}
	return o
}

// written at some places of leafs.
func (d *dice) written(t *testing.T, o api.Outline) []api.Entry {
	t.Helper()
	count, err := place.Cells(o)
	if err != nil {
		t.Fatal(err)
	}
	var out []api.Entry
	for n := range count {
		p, err := place.Of(o, n)
		if err != nil {
			t.Fatal(err)
		}
		if leaf, _ := place.Leaf(o, p); leaf && d.roll(3) > 0 {
			out = append(out, api.Entry{At: p, N: []int{0, 1, -1, 7, -30, 200, api.MaxInput, -api.MaxInput}[d.roll(8)]})
		}
	}
	return out
}

// textOf a cube, word by word.
func textOf(o api.Outline, l []api.Entry) string {
	out := ""
	for _, d := range o.Dims {
		out += fmt.Sprintf("dim %s %d\n", d.Name, d.Solve)
		for _, m := range d.Members {
			parent := "-"
			if m.Parent >= 0 {
				parent = fmt.Sprint(m.Parent)
			}
			out += fmt.Sprintf("mem %s %s %c", m.Name, parent, "-~+"[m.Sign+1])
			if m.Formula != "" {
				out += "=" + m.Formula
			}
			out += "\n"
		}
	}
	for _, e := range l {
		names := make([]string, len(e.At))
		for i, k := range e.At {
			names[i] = o.Dims[i].Members[k].Name
		}
		out += fmt.Sprintf("cell %s %d\n", strings.Join(names, "."), e.N)
	}
	return out
}

// spoiled text: some lines gone, twice there, swapped, or with a word of another one.
func (d *dice) spoiled(whole string) string {
	lines := strings.SplitAfter(whole, "\n")
	lines = lines[:len(lines)-1]
	for range 1 + d.roll(2) {
		if len(lines) == 0 {
			return ""
		}
		i, k := d.roll(len(lines)), d.roll(len(lines))
		switch d.roll(5) {
		case 0:
			lines = slices.Delete(lines, i, i+1)
		case 1:
			lines = slices.Insert(lines, i, lines[k])
		case 2:
			lines[i], lines[k] = lines[k], lines[i]
		default:
			a, b := strings.Fields(lines[i]), strings.Fields(lines[k])
			if len(a) > 1 && len(b) > 1 {
				a[1+d.roll(len(a)-1)] = b[1+d.roll(len(b)-1)]
			}
			lines[i] = strings.Join(a, " ") + "\n"
		}
	}
	return strings.Join(lines, "")
}

func TestManyCubes(t *testing.T) {
	d := dice(16)
	counts := make([]int, 9)
	for range 600 {
		o := d.outline()
		l := d.written(t, o)
		want := textOf(o, l)
		bothWays(t, o, l, want)
		asked(t, want)
		for range 20 {
			counts[asked(t, d.spoiled(want))]++
		}
		if t.Failed() {
			t.FailNow()
		}
	}
	for e, n := range counts {
		if api.Errno(e) != api.ErrFull && api.Errno(e) != api.ErrShape && n < 5 {
			t.Errorf("%v was told %d times", api.Errno(e), n)
		}
	}
}

// The outline comes ahead of places, which come ahead of what is written; lines come ahead of all of these.
func TestWhichFirst(t *testing.T) {
	for _, c := range []struct {
		lines string
		at    int
		e     api.Errno
	}{
		{"dim x 0/mem a - +=a/cell b 5/cell a 9999999/cell", 4, api.ErrSyntax},
		{"dim x 0/mem a - +=a/cell b 5/cell a 9999999", 0, api.ErrCycle},
		{"dim x 0/mem a - +/cell a 9999999/cell a 5/cell b 5/cell a.a 5", 4, api.ErrNone},
		{"dim x 0/mem a - +/cell a 9999999/cell a 5/cell a.b 5/cell b 5", 4, api.ErrSyntax},
		{"dim x 0/mem a - +/cell a 9999999/cell a 5/cell a 5", 0, api.ErrRange},
		{"dim x 0/mem a - +/cell a 4/cell a 5/cell a 9999999", 0, api.ErrClash},
		{"dim x 0/mem a - +/mem b 0 +/mem c 0 +/cell c 4/cell b 5", 0, api.ErrClash},
		{"dim x 0/mem a - +/mem b 0 +/mem c 0 +/cell a 4/cell b 5", 0, api.ErrState},
		{"dim x 0/mem a - +/mem b - +=a/cell b 5", 0, api.ErrState},
		// What All finds is told at line 0, whichever line it is of.
		{"dim x 0/mem a - +/dim y 0", 0, api.ErrNone}, {"dim x 0/dim y 0/mem a - +", 0, api.ErrNone}, {"dim x 0", 0, api.ErrNone}, {"dim x 0/cell a 5", 0, api.ErrNone},
		{"dim X 0/mem a - +", 0, api.ErrSyntax}, {"dim x 0/mem A - +/cell a 5", 0, api.ErrSyntax}, {"dim x 0/mem a - +/mem ab9 - +", 0, api.ErrSyntax}, {"dim x 0/mem a - +/mem - - -", 0, api.ErrSyntax}, {"dim ~ 0/mem a - +", 0, api.ErrSyntax}, {"dim x 0/mem a\t - +", 0, api.ErrSyntax}, {"dim x\xff 0/mem a - +", 0, api.ErrSyntax}, {"dim x 0/mem a - +/mem \x00 - +", 0, api.ErrSyntax},
		{"dim x 9999999/mem a - +", 0, api.ErrRange}, {"dim x 0/mem a 0 +", 0, api.ErrRange}, {"dim x 0/mem a - +/mem b 9999999 +", 0, api.ErrRange}, {"dim x 0/mem a - +/mem b 1 +", 0, api.ErrRange},
		{"dim x 0/mem a - +/mem a - +", 0, api.ErrClash}, {"dim x 0/mem a - +/dim x 0/mem a - +", 0, api.ErrClash}, {"dim x 0/mem a - +=1/mem b 0 +", 0, api.ErrState},
		{"dim a 0/dim a 0/dim a 0/dim a 0/dim a 0/mem a 5 +/cell b 5", 0, api.ErrFull},
		{"dim x 0/mem a - +==", 0, api.ErrSyntax}, {"dim x 0/mem a - +=b=c", 0, api.ErrSyntax}, {"dim x 0/mem a - +=1.5", 0, api.ErrSyntax}, {"dim x 0/mem a - +=+", 0, api.ErrSyntax}, {"dim x 0/mem a - +=1\r", 0, api.ErrSyntax}, {"dim x 0/mem a - +=\t", 0, api.ErrSyntax}, {"dim x 0/mem a - +=\xff", 0, api.ErrSyntax}, {"dim x 0/mem a - +=b", 0, api.ErrNone}, {"dim x 0/mem a - +=1000001", 0, api.ErrRange}, {"dim x 0/mem a - +=10000000", 0, api.ErrSyntax},
		// Places are names of any kind as far as lines go.
		{"dim x 0/mem a - +/cell A 5", 2, api.ErrNone}, {"dim x 0/mem a - +/cell a 5/cell - 5", 3, api.ErrNone}, {"dim x 0/mem a - +/cell 5 5", 2, api.ErrNone}, {"dim x 0/mem a - +/cell a\t 5", 2, api.ErrNone}, {"dim x 0/mem a - +/cell \xff 5", 2, api.ErrNone}, {"dim x 0/mem a - +/cell ~.# 5", 2, api.ErrSyntax}, {"dim x 0/mem a - +/dim y 0/mem a - +/cell a.a 5/cell a 5", 5, api.ErrSyntax}, {"dim x 0/mem a - +/dim y 0/mem a - +/cell a.a.a 5", 4, api.ErrSyntax}, {"dim x 0/mem a - +/dim y 0/mem b - +/cell b.a 5", 4, api.ErrNone},
	} {
		notParsed(t, text(c.lines), c.at, c.e)
		asked(t, text(c.lines))
	}
}

// wrongOutlines are what chapter 10 finds wrong.
func wrongOutlines() []api.Outline {
	great := strings.Repeat(" a:-1:1:", 13)
	return []api.Outline{
		{}, {Dims: []api.Dim{}}, {Dims: make([]api.Dim, 2)}, {Dims: make([]api.Dim, 5)}, {Dims: make([]api.Dim, 100_000)},
		cube("x 0", "y 0 a:-1:1:"), cube("x 0 a:-1:1:", "y 0"), cube("X 0 a:-1:1:", "y 0 a:-1:1:"), cube("x 10 a:-1:1:", "y 0 a:-1:1:"), cube("x 0 a:-1:1:", "y -1 a:-1:1:"), cube("x 0"+great, "y 0 a:-1:1:"), cube("x 0 a:-1:1:", "x 0 a:-1:1:"),
		cube("x 0 A:-1:1:", "y 0 a:-1:1:"), cube("x 0 a:-1:1: a:-1:1:", "y 0 a:-1:1:"), cube("x 0 a:0:1:", "y 0 a:-1:1:"), cube("x 0 a:-1:1:", "y 0 a:-2:1:"), cube("x 0 a:-1:2:", "y 0 a:-1:1:"), cube("x 0 a:-1:1:1 b:0:1:", "y 0 a:-1:1:"), cube("x 0 a:-1:1:"+strings.Repeat("1", 101), "y 0 a:-1:1:"),
		cube("x 0 a:-1:1:a+", "y 0 a:-1:1:"), cube("x 0 a:-1:1:", "y 0 a:-1:1:b"), cube("x 0 a:-1:1:1000001", "y 0 a:-1:1:"), cube("x 0 a:-1:1:", "y 0 a:-1:1:1"+strings.Repeat("+1", 15)),
		cube("x 0 a:-1:1:a", "y 0 a:-1:1:"), cube("x 0 a:-1:1:", "y 0 a:-1:1:b b:-1:1:a"), cube("x 0 a:-1:1: b:0:1:a", "y 0 a:-1:1:"), cube("x 0 a:-1:1:a", "y 0 A:-1:1:"),
	}
}

func TestWrongPrints(t *testing.T) {
	counts := make([]int, 9)
	for _, o := range wrongOutlines() {
		_, _, err := rules.All(o)
		e := plain.Told(err)
		counts[e]++
		notPrinted(t, o, nil, e)
		notPrinted(t, o, entries("0.0=5"), e)
		notPrinted(t, o, entries("9.9=9999999 1=1"), e)
		notPrinted(t, o, []api.Entry{{}}, e)
	}
	for _, e := range []api.Errno{api.ErrRange, api.ErrSyntax, api.ErrFull, api.ErrNone, api.ErrState, api.ErrClash, api.ErrCycle} {
		if counts[e] == 0 {
			t.Errorf("%v was not told", e)
		}
	}
	if counts[api.OK] > 0 {
		t.Error("a right outline is among the wrong ones")
	}
	for text, e := range map[string]api.Errno{
		"1=1": api.ErrShape, "1.1.1=1": api.ErrShape, "4.1=1": api.ErrRange, "1.3=1": api.ErrRange, "-1.1=1": api.ErrRange, "0.1=1": api.ErrState, "1.0=1": api.ErrState, "3.1=1": api.ErrState, "1.1=1000001": api.ErrRange, "1.1=-1000001": api.ErrRange, "1.1=1 1.1=1": api.ErrClash, "2.1=1 1.2=1": api.ErrClash, "3.1=1 1=1": api.ErrState, "1=1 3.1=1": api.ErrShape,
	} {
		notPrinted(t, shop(), entries(text), e)
	}
	notPrinted(t, shop(), []api.Entry{{At: api.Place{math.MinInt, math.MaxInt}, N: math.MinInt}}, api.ErrRange)
	notPrinted(t, shop(), []api.Entry{{At: api.Place{1, 1}, N: math.MinInt}}, api.ErrRange)
	notPrinted(t, shop(), []api.Entry{{At: make(api.Place, 100_000)}}, api.ErrShape)
}

// Texts far greater than those of a cube are gone through as well.
func TestGreatTexts(t *testing.T) {
	many := 300_000
	notParsed(t, strings.Repeat("dim x 0\n", many), 0, api.ErrFull)
	notParsed(t, strings.Repeat("dim x 0\n", many)+"dim x", many, api.ErrSyntax)
	notParsed(t, "dim x 0\n"+strings.Repeat("mem a - +\n", many), 0, api.ErrFull)
	notParsed(t, "dim x 0\n"+strings.Repeat("mem a - +\n", many)+"\n", many+1, api.ErrSyntax)
	notParsed(t, "dim x 0\nmem a - +\n"+strings.Repeat("cell a 5\n", many/10), 0, api.ErrClash)
	notParsed(t, "dim x 0\nmem a - +\n"+strings.Repeat("cell a 5\n", many/10)+"cell b 5\n", many/10+2, api.ErrNone)
	notParsed(t, strings.Repeat("\n", many), 0, api.ErrSyntax)
	notParsed(t, strings.Repeat(" ", many), 0, api.ErrSyntax)
	notParsed(t, "dim"+strings.Repeat(" ", many)+"\n", 0, api.ErrSyntax)
	notParsed(t, "dim "+strings.Repeat("x", many)+" 0\n", 0, api.ErrSyntax)
	notParsed(t, "dim x "+strings.Repeat("1", many)+"\n", 0, api.ErrSyntax)
	notParsed(t, "dim x 0\nmem a - +\ncell a"+strings.Repeat(".a", many)+" 5\n", 2, api.ErrSyntax)
	notParsed(t, "dim x 0\nmem a - +\ncell a"+strings.Repeat(".", many)+" 5\n", 2, api.ErrSyntax)
	notParsed(t, "dim x 0\nmem a - +="+strings.Repeat("(", many)+"\n", 0, api.ErrFull)
	notParsed(t, "dim x 0\nmem a - +"+strings.Repeat("=", many)+"\n", 0, api.ErrFull)
}

// P2: what is handed in stays as it was, what lies behind its length is not read, and what is told hangs on it alone.
func TestNothingWrittenOrKept(t *testing.T) {
	o, l := shop(), entries(shopEntries)
	o.Dims = append(make([]api.Dim, 0, 4), o.Dims...)
	o.Dims[:3][2] = api.Dim{Name: "X", Solve: 99}
	o.Dims[1].Members = append(make([]api.Member, 0, 5), o.Dims[1].Members...)
	o.Dims[1].Members[:4][3] = api.Member{Name: "X", Parent: 0, Sign: 1, Formula: "+"}
	l = append(make([]api.Entry, 0, 9), l...)
	l[:5][4] = api.Entry{At: api.Place{9}, N: -1}
	l[1].At = append(make(api.Place, 0, 3), l[1].At...)
	l[1].At[:3][2] = 9
	for range 2 {
		bothWays(t, o, l, text(shopLines))
	}
	if !reflect.DeepEqual(o, shop()) || !reflect.DeepEqual(l, entries(shopEntries)) {
		t.Errorf("what was handed in was written into: %v, %v", o, l)
	}
	if o.Dims[:3][2].Solve != 99 || o.Dims[1].Members[:4][3].Formula != "+" || l[:5][4].N != -1 || l[1].At[:3][2] != 9 {
		t.Error("what lies behind was written into")
	}
	// Each call is told what it is given then, whatever came out ahead.
	l[0].N, o.Dims[0].Solve = 7, 2
	bothWays(t, o, l, strings.NewReplacer("account 1", "account 2", "spring 200", "spring 7").Replace(text(shopLines)))
	notParsed(t, "dim", 0, api.ErrSyntax)
	bothWays(t, shop(), entries(shopEntries), text(shopLines))
}

// P2: what comes out is the caller's: no two lists of it share memory, and none is shared with what comes out again.
func TestFreshMemory(t *testing.T) {
	for which := range 7 {
		o, l, _, err := sheet.Parse(text(shopLines))
		if err != nil {
			t.Fatal(err)
		}
		wantO, wantL := shop(), entries(shopEntries)
		if which < 2 {
			m := o.Dims[which].Members
			for i := range m[:cap(m)] {
				m[:cap(m)][i] = api.Member{Name: "spoiled"}
			}
			for i := range wantO.Dims[which].Members {
				wantO.Dims[which].Members[i] = api.Member{Name: "spoiled"}
			}
		} else if which < 6 {
			p := l[which-2].At
			for i := range p[:cap(p)] {
				p[:cap(p)][i] = -7
			}
			wantL[which-2].At = api.Place{-7, -7}
		} else {
			clear(o.Dims[len(o.Dims):cap(o.Dims)])
			clear(l[len(l):cap(l)])
		}
		if !same(o, l, wantO, wantL) {
			t.Errorf("two lists share memory with list %d: %v, %v", which, o, l)
		}
		clear(o.Dims)
		clear(l)
	}
	bothWays(t, shop(), entries(shopEntries), text(shopLines))
}
