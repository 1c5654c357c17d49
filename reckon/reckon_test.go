package reckon_test

import (
	"fmt"
	"math"
	"math/big"
	"reflect"
	"slices"
	"strconv"
	"strings"
	"testing"
	"unsafe"

	"tallyhall/api"
	"tallyhall/formula"
	"tallyhall/plain"
	"tallyhall/reckon"
)

var (
	empty = api.Cell{}
	fault = api.Cell{Kind: api.Fault}
)

func number(n int) api.Cell { return api.Cell{Kind: api.Number, N: n} }

func num(n int) api.Node { return api.Node{Op: api.Num, N: n} }

func ref(name string) api.Node { return api.Node{Op: api.Ref, Name: name} }

func both(op, left, right int) api.Node { return api.Node{Op: op, Left: left, Right: right} }

// nodes of a formula's text.
func nodes(t *testing.T, text string) []api.Node {
	t.Helper()
	l, at, err := formula.Parse(text)
	if err != nil {
		t.Fatalf("%q is no formula: %v at %d", text, err, at)
	}
	return l
}

// cells reads them: a number, "-" for what is Empty, "#" for a Fault, blanks between.
func cells(text string) []api.Cell {
	var out []api.Cell
	for _, w := range strings.Fields(text) {
		n, err := strconv.Atoi(w)
		switch {
		case w == "-":
			out = append(out, empty)
		case w == "#":
			out = append(out, fault)
		case err == nil:
			out = append(out, number(n))
		default:
			panic(w)
		}
	}
	return out
}

func valueOne(t *testing.T, l []api.Node, names []string, c []api.Cell, want api.Cell, e api.Errno) {
	t.Helper()
	if got, err := reckon.Value(l, names, c); got != want || plain.Told(err) != e {
		t.Errorf("Value(%v, %.50q, %.50v) = %v, %v, want %v, %v", l, names, c, got, err, want, e)
	}
}

func swapOne(t *testing.T, l, want []api.Node, e api.Errno) {
	t.Helper()
	if got, err := reckon.Swap(l); !slices.Equal(got, want) || plain.Told(err) != e {
		t.Errorf("Swap(%v) = %v, %v, want %v, %v", l, got, err, want, e)
	}
}

func constOne(t *testing.T, l []api.Node, want bool, e api.Errno) {
	t.Helper()
	if got, err := reckon.Const(l); got != want || plain.Told(err) != e {
		t.Errorf("Const(%v) = %v, %v, want %v, %v", l, got, err, want, e)
	}
}

func TestOrdinary(t *testing.T) {
	for _, c := range []struct {
		text, names, cells, want, swapped string
		fixed                             bool
	}{
		{"7", "", "", "7", "7", true},
		{"0", "a b", "# -", "0", "0", true},
		{"a", "a", "5", "5", "a", false},
		{"a", "a", "-", "-", "a", false},
		{"a", "a", "#", "#", "a", false},
		{"b", "a b c", "1 2 3", "2", "b", false},
		{"sales-costs", "costs sales", "30 100", "70", "sales-costs", false},
		{"(sales-costs)*100/sales", "costs sales", "30 200", "85", "100*(sales-costs)/sales", false},
		{"1+2*3", "", "", "7", "3*2+1", true},
		{"(1+2)*3", "", "", "9", "3*(2+1)", true},
		{"1+2+3", "", "", "6", "3+(2+1)", true},
		{"1+(2+3)", "", "", "6", "3+2+1", true},
		{"9-2-3", "", "", "4", "9-2-3", true},
		{"9-(2-3)", "", "", "10", "9-(2-3)", true},
		{"9-(2+3)", "", "", "4", "9-(3+2)", true},
		{"100/7/3", "", "", "4", "100/7/3", true},
		{"100/(7/3)", "", "", "50", "100/(7/3)", true},
		{"100/(7*3)", "", "", "4", "100/(3*7)", true},
		{"7*3/2", "", "", "10", "3*7/2", true},
		{"7*(3/2)", "", "", "7", "3/2*7", true},
		{"(0-7)/2", "", "", "-3", "(0-7)/2", true},
		{"a/b", "a b", "-7 -2", "3", "a/b", false},
		{"a/0", "a", "7", "#", "a/0", false},
		{"a/0", "a", "-", "-", "a/0", false},
		{"a/0+1", "a", "-", "1", "1+a/0", false},
		{"a+b", "a b", "- -", "-", "b+a", false},
		{"a-b", "a b", "- 4", "-4", "a-b", false},
		{"a*b+c", "a b c", "- 4 5", "5", "c+b*a", false},
		{"a*0", "a", "#", "#", "0*a", false},
		{"b*a-b*a", "a b", "3 #", "#", "a*b-a*b", false},
		{"1/0*a", "a", "-", "#", "a*(1/0)", false},
		{"x*x-x", "w x y", "1 9 2", "72", "x*x-x", false},
	} {
		l := nodes(t, c.text)
		valueOne(t, l, strings.Fields(c.names), cells(c.cells), cells(c.want)[0], api.OK)
		swapOne(t, l, nodes(t, c.swapped), api.OK)
		constOne(t, l, c.fixed, api.OK)
	}
}

// What is beyond MaxValue on the way is a Fault, even where what follows would bring it back.
func TestBeyond(t *testing.T) {
	names, c := []string{"a", "b"}, []api.Cell{number(api.MaxValue), number(-api.MaxValue)}
	for text, want := range map[string]api.Cell{
		"1000000*1000000": number(api.MaxValue), "0-1000000*1000000": number(-api.MaxValue), "1000000*1000000*1": number(api.MaxValue),
		"1000000*1000000+1": fault, "1000000*1000000+1-1": fault, "1000000*1000000-1+1": number(api.MaxValue), "1000000*1000000*1000000": fault, "1000000*1000000*1000000*0": fault,
		"1000000*1000000*1000000/1000000": fault, "a": number(api.MaxValue), "b": number(-api.MaxValue), "a+b": number(0), "a-b": fault, "b-a": fault, "a+b-1": number(-1), "b-1": fault, "b-1+1": fault,
		"a*b": fault, "a*a": fault, "a/b": number(-1), "a*1": number(api.MaxValue), "b*1": number(-api.MaxValue), "b*2": fault, "a/1000000*1000000": number(api.MaxValue), "a+a-a": fault, "a+(a-a)": number(api.MaxValue),
	} {
		valueOne(t, nodes(t, text), names, c, want, api.OK)
	}
}

// come tells what two cells come to, with numbers as great as they may be on the way.
func come(op int, a, b api.Cell) api.Cell {
	if a == fault || b == fault {
		return fault
	}
	x, y, z := big.NewInt(int64(a.N)), big.NewInt(int64(b.N)), new(big.Int)
	switch {
	case op <= api.Minus && a == empty && b == empty, op >= api.Times && (a == empty || b == empty):
		return empty
	case op == api.Plus:
		z.Add(x, y)
	case op == api.Minus:
		z.Sub(x, y)
	case op == api.Times:
		z.Mul(x, y)
	case b.N == 0:
		return fault
	default:
		z.Quo(x, y)
	}
	if z.CmpAbs(big.NewInt(1_000_000_000_000)) > 0 {
		return fault
	}
	return number(int(z.Int64()))
}

func someCells() []api.Cell {
	return cells("- # 0 1 -1 2 -7 1000000 -1000001 999999999999 1000000000000 -1000000000000")
}

// Every op with every cell on both sides, and with the same one on both.
func TestEveryPair(t *testing.T) {
	for op := api.Plus; op <= api.Over; op++ {
		for _, a := range someCells() {
			for _, b := range someCells() {
				valueOne(t, []api.Node{ref("a"), ref("b"), both(op, 0, 1)}, []string{"a", "b"}, []api.Cell{a, b}, come(op, a, b), api.OK)
				valueOne(t, []api.Node{ref("a"), ref("b"), both(op, 1, 0)}, []string{"a", "b"}, []api.Cell{a, b}, come(op, b, a), api.OK)
				valueOne(t, []api.Node{ref("b"), ref("b"), both(op, 0, 1)}, []string{"a", "b"}, []api.Cell{a, b}, come(op, b, b), api.OK)
			}
			for _, n := range []int{0, 1, 7, api.MaxInput} {
				valueOne(t, []api.Node{ref("a"), num(n), both(op, 0, 1)}, []string{"a"}, []api.Cell{a}, come(op, a, number(n)), api.OK)
				valueOne(t, []api.Node{ref("a"), num(n), both(op, 1, 0)}, []string{"a"}, []api.Cell{a}, come(op, number(n), a), api.OK)
			}
		}
	}
}

// branch of a formula, apart from how nodes lie in a list: an operand, or two with an op.
type branch struct {
	op          int
	word        string
	left, right *branch
}

// branches of so many operands: every shape with every op.
func branches(from, count int) []*branch {
	if count == 1 {
		return []*branch{{word: []string{"a", "b", "3", "c", "0"}[from]}}
	}
	var out []*branch
	for k := 1; k < count; k++ {
		for _, left := range branches(from, k) {
			for _, right := range branches(from+k, count-k) {
				for op := api.Plus; op <= api.Over; op++ {
					out = append(out, &branch{op: op, left: left, right: right})
				}
			}
		}
	}
	return out
}

func (b *branch) text() string {
	if b.left == nil {
		return b.word
	}
	return "(" + b.left.text() + "+-*/"[b.op-api.Plus:][:1] + b.right.text() + ")"
}

func (b *branch) swapped() *branch {
	if b.left == nil {
		return b
	}
	s := &branch{op: b.op, left: b.left.swapped(), right: b.right.swapped()}
	if b.op == api.Plus || b.op == api.Times {
		s.left, s.right = s.right, s.left
	}
	return s
}

func (b *branch) value(of map[string]api.Cell) api.Cell {
	if b.left == nil {
		if n, err := strconv.Atoi(b.word); err == nil {
			return number(n)
		}
		return of[b.word]
	}
	return come(b.op, b.left.value(of), b.right.value(of))
}

// turned is a formula with the nodes of right sides ahead of those of left sides: another order, but the same formula.
func turned(l []api.Node) []api.Node {
	var out []api.Node
	var lay func(i int) int
	lay = func(i int) int {
		n := l[i]
		if n.Op > api.Ref {
			n.Right = lay(n.Right)
			n.Left = lay(l[i].Left)
		}
		out = append(out, n)
		return len(out) - 1
	}
	lay(len(l) - 1)
	return out
}

// level is a formula with all operands ahead of all pairs: another order again.
func level(l []api.Node) []api.Node {
	var out []api.Node
	to := make([]int, len(l))
	for _, pairs := range []bool{false, true} {
		for i, n := range l {
			if (n.Op > api.Ref) != pairs {
				continue
			}
			if pairs {
				n.Left, n.Right = to[n.Left], to[n.Right]
			}
			to[i] = len(out)
			out = append(out, n)
		}
	}
	return out
}

// Every formula of up to four operands, with every cell of a few for its refs: it means the same in whichever order its nodes stand, swapped, and written and read.
func TestEveryFormula(t *testing.T) {
	names, some := []string{"a", "b", "c"}, cells("- # 0 2 -3 1000000000000")
	for count := 1; count <= 4; count++ {
		for from := range 6 - count {
			for _, b := range branches(from, count) {
				l := nodes(t, b.text())
				swapped := nodes(t, b.swapped().text())
				for _, other := range [][]api.Node{l, turned(l), level(l)} {
					swapOne(t, other, swapped, api.OK)
					constOne(t, other, !strings.ContainsAny(b.text(), "abc"), api.OK)
				}
				swapOne(t, swapped, l, api.OK)
				for i := range 6 * 6 * 6 {
					c := []api.Cell{some[i%6], some[i/6%6], some[i/36]}
					want := b.value(map[string]api.Cell{"a": c[0], "b": c[1], "c": c[2]})
					valueOne(t, l, names, c, want, api.OK)
					valueOne(t, swapped, names, c, want, api.OK)
					if i%7 == 0 {
						valueOne(t, turned(l), names, c, want, api.OK)
						valueOne(t, level(l), names, c, want, api.OK)
					}
				}
				if t.Failed() {
					t.FailNow()
				}
			}
		}
	}
}

// As many nodes as may be, with refs on the left and on the right, all the way down.
func TestGreatest(t *testing.T) {
	names, c := []string{"a", "b"}, []api.Cell{number(2), number(1)}
	left := "a" + strings.Repeat("+b", 14)
	right := strings.Repeat("b+(", 14) + "a" + strings.Repeat(")", 14)
	valueOne(t, nodes(t, left), names, c, number(16), api.OK)
	valueOne(t, nodes(t, right), names, c, number(16), api.OK)
	swapOne(t, nodes(t, left), nodes(t, right), api.OK)
	swapOne(t, nodes(t, right), nodes(t, left), api.OK)
	constOne(t, nodes(t, left), false, api.OK)
	constOne(t, nodes(t, "1"+strings.Repeat("*9", 14)), true, api.OK)
	constOne(t, nodes(t, "a"+strings.Repeat("*9", 14)), false, api.OK)
	constOne(t, nodes(t, "1"+strings.Repeat("*9", 13)+"-a"), false, api.OK)
	valueOne(t, nodes(t, "a"+strings.Repeat("*a", 14)), names, c, number(1<<15), api.OK)
	valueOne(t, nodes(t, "b"+strings.Repeat("-a", 14)), names, c, number(-27), api.OK)
	valueOne(t, nodes(t, strings.Repeat("b-(", 14)+"a"+strings.Repeat(")", 14)), names, c, number(2), api.OK)
	swapOne(t, nodes(t, strings.Repeat("b-(", 14)+"a"+strings.Repeat(")", 14)), nodes(t, strings.Repeat("b-(", 14)+"a"+strings.Repeat(")", 14)), api.OK)
	valueOne(t, nodes(t, "1000000"+strings.Repeat("/a", 14)), names, c, number(1_000_000>>14), api.OK)
}

// A ref is the cell at its name's place, wherever that is; one that is no name there, be it ever so like one, is told.
func TestWhatARefIs(t *testing.T) {
	all := []string{"b", "bb", "bbb", "c", "ca", "cab", "x", "xyzxyzxy"}
	for count := range len(all) + 1 {
		var c []api.Cell
		for i := range count {
			c = append(c, number(100+i))
		}
		for i, name := range all {
			want, e := number(100+i), api.OK
			if i >= count {
				want, e = empty, api.ErrNone
			}
			valueOne(t, []api.Node{ref(name)}, all[:count], c, want, e)
		}
		for _, name := range []string{"a", "ba", "bbbb", "cb", "caba", "d", "xyzxyzx", "zzzzzzzz"} {
			valueOne(t, []api.Node{ref(name)}, all[:count], c, empty, api.ErrNone)
		}
	}
	for _, text := range []string{"a+x", "x+a", "x*(a/0)", "0*x", "a/0-x", "(a+(a+(a+x)))", "x-x", "f*x", "e*x"} {
		valueOne(t, nodes(t, text), []string{"a", "e", "f"}, cells("1 - #"), empty, api.ErrNone)
	}
}

// Names rise by their bytes, each once; whether they are names at all is not asked.
func TestNamesRise(t *testing.T) {
	l := nodes(t, "a")
	for _, names := range [][]string{{"a"}, {"", "a"}, {"A", "a", "é"}, {"\x00", "a"}, {"Z", "a", "a b"}, {"7", "a", "abcdefghijkl"}, {"a", "aa", "ab", "b"}, {"a", "z", "{", "\xff", "\xff\x00"}} {
		c := make([]api.Cell, len(names))
		c[slices.Index(names, "a")] = number(5)
		valueOne(t, l, names, c, number(5), api.OK)
		valueOne(t, nodes(t, "7"), names, c, number(7), api.OK)
	}
	for _, names := range [][]string{{"a", "a"}, {"b", "a"}, {"aa", "a"}, {"a", "A"}, {"a", ""}, {"", "", "a"}, {"a", "b", "b"}, {"a", "b", "c", "b"}, {"a", "a", "b"}, {"a", "c", "b", "d"}, {"é", "a"}, {"\xff", "a", "b"}} {
		c := make([]api.Cell, len(names))
		valueOne(t, l, names, c, empty, api.ErrClash)
		valueOne(t, nodes(t, "7"), names, c, empty, api.ErrClash)
		valueOne(t, nodes(t, "x"), names, c, empty, api.ErrClash)
	}
}

// A cell that is wrong is told, wherever it stands, and whether or not a ref is it.
func TestWrongCells(t *testing.T) {
	names := []string{"a", "b", "c"}
	for _, wrong := range []api.Cell{{Kind: -1}, {Kind: 3}, {Kind: math.MaxInt}, {Kind: api.Empty, N: 1}, {Kind: api.Fault, N: -1}, number(api.MaxValue + 1), number(-api.MaxValue - 1), number(math.MinInt), number(math.MaxInt)} {
		for i := range names {
			for _, text := range []string{"a", "b", "c", "7", "a/0", "x"} {
				c := make([]api.Cell, len(names))
				c[i] = wrong
				valueOne(t, nodes(t, text), names, c, empty, api.ErrRange)
			}
		}
	}
}

func TestAsManyCellsAsNames(t *testing.T) {
	names := []string{"a", "b", "c", "d", "e"}
	for i := range 6 {
		for k := range 6 {
			want, e := number(7), api.OK
			if i != k {
				want, e = empty, api.ErrShape
			}
			valueOne(t, nodes(t, "7"), names[:i], make([]api.Cell, k), want, e)
		}
	}
	valueOne(t, nodes(t, "7"), nil, nil, number(7), api.OK)
	valueOne(t, nodes(t, "7"), []string{}, nil, number(7), api.OK)
	valueOne(t, nodes(t, "7"), nil, []api.Cell{}, number(7), api.OK)
	valueOne(t, nodes(t, "a"), nil, nil, empty, api.ErrNone)
}

// Of all faults together the one is told that the chapter names first.
func TestOrderOfFaults(t *testing.T) {
	for wrong := range 1 << 5 {
		l, names, c := nodes(t, "a+b"), []string{"a", "b", "c"}, cells("1 2 3")
		want, e := number(3), api.OK
		if wrong&1 != 0 {
			l[0].Name = "x"
			want, e = empty, api.ErrNone
		}
		if wrong&2 != 0 {
			names[2] = "b"
			want, e = empty, api.ErrClash
		}
		if wrong&4 != 0 {
			c[0].Kind = 3
			want, e = empty, api.ErrRange
		}
		if wrong&8 != 0 {
			c = append(c, number(4))
			want, e = empty, api.ErrShape
		}
		if wrong&16 != 0 {
			l[1].Name = "B"
			want, e = empty, api.ErrSyntax
		}
		valueOne(t, l, names, c, want, e)
	}
}

// What is no formula is told by each call as chapter 8 tells it, ahead of all else.
func TestWrongFormulas(t *testing.T) {
	names, c := []string{"b", "a"}, []api.Cell{{Kind: 9}}
	for _, l := range [][]api.Node{
		nil, {}, {{}}, {num(-1)}, {num(1_000_001)}, {ref("")}, {ref("A")}, {ref("abcdefghi")}, {{Op: 7}}, {{Op: -1}}, {{Op: math.MaxInt}},
		{both(api.Plus, 0, 0)}, {both(api.Plus, -1, -1)}, {num(1), both(api.Plus, 0, 1)}, {num(1), both(api.Plus, 1, 0)}, {num(1), num(2), both(api.Plus, 0, 9)},
		{num(1), num(2), both(api.Over, math.MinInt, math.MaxInt)}, {num(1), both(api.Times, 0, 0)}, {num(1), num(2)}, {ref("a"), num(1)}, {num(1), num(2), both(api.Plus, 0, 1), num(3)},
		{{Op: api.Num, Name: "a"}}, {{Op: api.Ref, Name: "a", N: 1}}, {num(1), num(2), {Op: api.Plus, N: 1, Right: 1}},
		make([]api.Node, 30), make([]api.Node, 31), make([]api.Node, 1_000_000),
	} {
		e := plain.Told(formula.Check(l))
		if e == api.OK {
			t.Fatalf("%v is right", l)
		}
		valueOne(t, l, nil, nil, empty, e)
		valueOne(t, l, names, c, empty, e)
		valueOne(t, l, []string{"a"}, cells("1"), empty, e)
		swapOne(t, l, nil, e)
		constOne(t, l, false, e)
	}
}

// Many names end the same, and of a great many wrong ones the fault is told.
func TestManyNames(t *testing.T) {
	const many = 1_000_000
	names, c := make([]string, many), make([]api.Cell, many)
	for i := range names {
		names[i] = fmt.Sprintf("%08d", i)
		c[i] = number(i)
	}
	names[many-1] = "a"
	valueOne(t, nodes(t, "a*2"), names, c, number(2*(many-1)), api.OK)
	valueOne(t, nodes(t, "b"), names, c, empty, api.ErrNone)
	valueOne(t, nodes(t, "a"), names[1:], c, empty, api.ErrShape)
	c[many-2].Kind = 3
	valueOne(t, nodes(t, "a"), names, c, empty, api.ErrRange)
	c[many-2].Kind = api.Number
	names[many-2] = strings.Repeat("z", 1_000_000)
	valueOne(t, nodes(t, "a"), names, c, empty, api.ErrClash)
}

// P2: what is handed in stays as it was, what lies behind its length is not read, and what comes out is the caller's.
func TestNothingSharedOrWritten(t *testing.T) {
	l := append(make([]api.Node, 0, 20), nodes(t, "b*(a+7)-b/a")...)
	l[:len(l)+2][len(l)], l[:len(l)+2][len(l)+1] = num(-1), ref("A")
	names := append(make([]string, 0, 4), "a", "b")
	names[:3][2] = "a"
	c := append(make([]api.Cell, 0, 4), number(3), number(10))
	c[:3][2] = api.Cell{Kind: 9}
	was := fmt.Sprint(l[:len(l)+2], names[:3], c[:3])
	want := nodes(t, "(7+a)*b-b/a")
	for range 2 {
		valueOne(t, l, names, c, number(97), api.OK)
		constOne(t, l, false, api.OK)
		swapOne(t, l, want, api.OK)
		first, _ := reckon.Swap(l)
		second, _ := reckon.Swap(l)
		first = first[:cap(first)]
		for i := range first {
			first[i] = num(-9)
		}
		if !reflect.DeepEqual(second, want) {
			t.Errorf("two answers share memory: %v", second)
		}
		if got := fmt.Sprint(l[:len(l)+2], names[:3], c[:3]); got != was {
			t.Errorf("what was handed in was written into: %s, was %s", got, was)
		}
	}
	one := []api.Node{ref(string([]byte{'a', 'b'}))}
	got, _ := reckon.Swap(one)
	if unsafe.StringData(got[0].Name) == unsafe.StringData(one[0].Name) {
		t.Errorf("the name of a ref that comes out is the memory of the one that was handed in")
	}
}
