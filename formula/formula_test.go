package formula_test

import (
	"math"
	"reflect"
	"slices"
	"strconv"
	"strings"
	"testing"

	"tallyhall/api"
	"tallyhall/formula"
	"tallyhall/plain"
)

func num(n int) api.Node { return api.Node{Op: api.Num, N: n} }

func ref(name string) api.Node { return api.Node{Op: api.Ref, Name: name} }

func both(op, left, right int) api.Node { return api.Node{Op: op, Left: left, Right: right} }

// nodes of words with blanks between, each sign behind both of its sides: the order of Parse.
func nodes(words string) []api.Node {
	var l []api.Node
	var roots []int
	for i, w := range strings.Fields(words) {
		op := strings.Index("+-*/", w)
		n, err := strconv.Atoi(w)
		switch {
		case op >= 0:
			k := len(roots) - 2
			l = append(l, both(api.Plus+op, roots[k], roots[k+1]))
			roots = roots[:k]
		case err == nil:
			l = append(l, num(n))
		default:
			l = append(l, ref(w))
		}
		roots = append(roots, i)
	}
	return l
}

// sum of n nodes in all, each of another name: just those of an odd number are formulas.
func sum(n int) []api.Node {
	l := []api.Node{ref("a")}
	for i := 1; len(l) < n; i++ {
		l = append(l, ref(string(rune('a'+i))), both(api.Plus, len(l)-1, len(l)))
	}
	return l[:n]
}

// checkOne holds all calls that are given nodes against each other: each tells what Check does, and nothing else with an error.
func checkOne(t *testing.T, l []api.Node, want api.Errno) {
	t.Helper()
	if err := formula.Check(l); plain.Told(err) != want {
		t.Errorf("Check(%v) = %v, want %v", l, err, want)
	}
	text, err := formula.Print(l)
	if plain.Told(err) != want || (text == "") != (want != api.OK) {
		t.Errorf("Print(%v) = %q, %v, want %v", l, text, err, want)
	}
	names, err := formula.Refs(l)
	if plain.Told(err) != want || want != api.OK && len(names) != 0 {
		t.Errorf("Refs(%v) = %q, %v, want %v", l, names, err, want)
	}
}

func printOne(t *testing.T, l []api.Node, want string) {
	t.Helper()
	if got, err := formula.Print(l); got != want || err != nil {
		t.Errorf("Print(%v) = %q, %v, want %q", l, got, err, want)
	}
}

func refsOne(t *testing.T, l []api.Node, want ...string) {
	t.Helper()
	if got, err := formula.Refs(l); !slices.Equal(got, want) || err != nil {
		t.Errorf("Refs(%v) = %q, %v, want %q", l, got, err, want)
	}
}

func parseOne(t *testing.T, text string, want []api.Node, at int, e api.Errno) {
	t.Helper()
	got, k, err := formula.Parse(text)
	if !slices.Equal(got, want) || k != at || plain.Told(err) != e {
		t.Errorf("Parse(%.200q) = %v, %d, %v, want %v, %d, %v", text, got, k, err, want, at, e)
	}
}

func TestOrdinary(t *testing.T) {
	for _, c := range []struct {
		text, words, printed string
		refs                 []string
	}{
		{"7", "7", "7", nil},
		{"0", "0", "0", nil},
		{"sales", "sales", "sales", []string{"sales"}},
		{"((sales))", "sales", "sales", []string{"sales"}},
		{"sales-costs", "sales costs -", "sales-costs", []string{"costs", "sales"}},
		{"sales*100/costs", "sales 100 * costs /", "sales*100/costs", []string{"costs", "sales"}},
		{"a+b*c", "a b c * +", "a+b*c", []string{"a", "b", "c"}},
		{"a*b+c", "a b * c +", "a*b+c", []string{"a", "b", "c"}},
		{"(a+b)*c", "a b + c *", "(a+b)*c", []string{"a", "b", "c"}},
		{"a-b/c", "a b c / -", "a-b/c", []string{"a", "b", "c"}},
		{"(a-b)/c", "a b - c /", "(a-b)/c", []string{"a", "b", "c"}},
		{"c/(b-a)", "c b a - /", "c/(b-a)", []string{"a", "b", "c"}},
		{"a-b-c", "a b - c -", "a-b-c", []string{"a", "b", "c"}},
		{"(a-b)-c", "a b - c -", "a-b-c", []string{"a", "b", "c"}},
		{"a-(b-c)", "a b c - -", "a-(b-c)", []string{"a", "b", "c"}},
		{"a-b+c", "a b - c +", "a-b+c", []string{"a", "b", "c"}},
		{"a+(b+c)", "a b c + +", "a+(b+c)", []string{"a", "b", "c"}},
		{"a+(b*c)", "a b c * +", "a+b*c", []string{"a", "b", "c"}},
		{"a/b/c", "a b / c /", "a/b/c", []string{"a", "b", "c"}},
		{"a/b*c", "a b / c *", "a/b*c", []string{"a", "b", "c"}},
		{"a/(b/c)", "a b c / /", "a/(b/c)", []string{"a", "b", "c"}},
		{"a*(b*c)", "a b c * *", "a*(b*c)", []string{"a", "b", "c"}},
		{"a*(b/c)", "a b c / *", "a*(b/c)", []string{"a", "b", "c"}},
		{"(a*b)+(c/d)", "a b * c d / +", "a*b+c/d", []string{"a", "b", "c", "d"}},
		{"((1)+((2)))*(3)", "1 2 + 3 *", "(1+2)*3", nil},
		{"b+a+b+a", "b a + b + a +", "b+a+b+a", []string{"a", "b"}},
		{"b+1*2-3/4*(5-b)", "b 1 2 * + 3 4 / 5 b - * -", "b+1*2-3/4*(5-b)", []string{"b"}},
		{"0/0", "0 0 /", "0/0", nil},
	} {
		l := nodes(c.words)
		parseOne(t, c.text, l, 0, api.OK)
		printOne(t, l, c.printed)
		refsOne(t, l, c.refs...)
		checkOne(t, l, api.OK)
	}
}

func TestRefs(t *testing.T) {
	refsOne(t, nodes("b ab - a * abc / aa + b - ab +"), "a", "aa", "ab", "abc", "b")
	refsOne(t, nodes("z zz zzz zzzzzzzz + + +"), "z", "zz", "zzz", "zzzzzzzz")
	refsOne(t, nodes("x x x x x x x x + + + + + + +"), "x")
	refsOne(t, nodes("1 2 + 3 *"))
	refsOne(t, sum(api.MaxNodes-1), strings.Split("abcdefghijklmno", "")...)
}

func TestCheckBounds(t *testing.T) {
	checkOne(t, nil, api.ErrNone)
	checkOne(t, []api.Node{}, api.ErrNone)
	checkOne(t, sum(29), api.OK)
	checkOne(t, sum(30), api.ErrShape)
	checkOne(t, sum(31), api.ErrFull)
	checkOne(t, make([]api.Node, 31), api.ErrFull)
	checkOne(t, make([]api.Node, 100_000), api.ErrFull)
	checkOne(t, make([]api.Node, 30), api.ErrRange)
	for n, want := range map[int]api.Errno{
		0: api.OK, 1: api.OK, 1_000_000: api.OK,
		-1: api.ErrRange, 1_000_001: api.ErrRange, math.MinInt: api.ErrRange, math.MaxInt: api.ErrRange,
	} {
		checkOne(t, []api.Node{num(n)}, want)
	}
	for name, want := range map[string]api.Errno{
		"a": api.OK, "z": api.OK, "abcdefgh": api.OK,
		"": api.ErrSyntax, "abcdefghi": api.ErrSyntax, "A": api.ErrSyntax, "a b": api.ErrSyntax, "a1": api.ErrSyntax, "7": api.ErrSyntax, "é": api.ErrSyntax,
		"a+b": api.ErrSyntax, "(a)": api.ErrSyntax, "\x00": api.ErrSyntax, "\xff": api.ErrSyntax, "a\n": api.ErrSyntax,
	} {
		checkOne(t, []api.Node{ref(name)}, want)
	}
	for op := -3; op < 12; op++ {
		one, three := api.ErrRange, api.ErrRange
		switch {
		case op == api.Num:
			one, three = api.OK, api.ErrShape
		case op == api.Ref:
			one, three = api.ErrSyntax, api.ErrSyntax
		case op >= api.Plus && op <= api.Over:
			three = api.OK
		}
		checkOne(t, []api.Node{{Op: op}}, one)
		checkOne(t, []api.Node{num(1), num(2), {Op: op, Right: 1}}, three)
	}
	checkOne(t, []api.Node{{Op: math.MinInt}}, api.ErrRange)
	checkOne(t, []api.Node{{Op: math.MaxInt}}, api.ErrRange)
}

// A side is a place ahead of the node's own, and each but the last is a side just once.
func TestCheckSides(t *testing.T) {
	for _, k := range []int{-1, 2, 3, math.MinInt, math.MaxInt} {
		for op := api.Plus; op <= api.Over; op++ {
			checkOne(t, []api.Node{num(1), num(2), both(op, k, 1)}, api.ErrRange)
			checkOne(t, []api.Node{num(1), num(2), both(op, 1, k)}, api.ErrRange)
			checkOne(t, []api.Node{num(1), num(2), both(op, 0, 1)}, api.OK)
			checkOne(t, []api.Node{num(1), num(2), both(op, 1, 0)}, api.OK)
			checkOne(t, []api.Node{num(1), both(op, 0, 0)}, api.ErrShape)
			checkOne(t, []api.Node{num(1), num(2), both(op, 1, 1)}, api.ErrShape)
		}
	}
	checkOne(t, []api.Node{num(1), num(2)}, api.ErrShape)
	checkOne(t, []api.Node{num(1), num(2), both(api.Plus, 0, 1), num(3)}, api.ErrShape)
	checkOne(t, []api.Node{num(1), num(2), both(api.Plus, 0, 1), both(api.Plus, 0, 2)}, api.ErrShape)
	checkOne(t, []api.Node{num(1), num(2), both(api.Plus, 0, 1), both(api.Plus, 0, 1)}, api.ErrShape)
	checkOne(t, []api.Node{num(1), num(2), num(3), both(api.Plus, 0, 1), both(api.Plus, 0, 3)}, api.ErrShape)
}

// What a node's op has not is told behind what is wrong with what it has, and a node behind those ahead of it; how nodes hang together comes last.
func TestCheckOrder(t *testing.T) {
	stray := api.Node{Op: api.Num, Left: 1}
	for _, c := range []struct {
		l    []api.Node
		want api.Errno
	}{
		{[]api.Node{stray}, api.ErrShape},
		{[]api.Node{{Op: api.Num, N: -1, Left: 1}}, api.ErrRange},
		{[]api.Node{{Op: api.Num, N: 1, Name: "a"}}, api.ErrShape},
		{[]api.Node{{Op: api.Num, N: 1, Right: -1}}, api.ErrShape},
		{[]api.Node{{Op: api.Ref, N: 1, Name: "a"}}, api.ErrShape},
		{[]api.Node{{Op: api.Ref, Name: "a", Left: -1}}, api.ErrShape},
		{[]api.Node{{Op: api.Ref, Name: "a", Right: 1}}, api.ErrShape},
		{[]api.Node{{Op: api.Ref, N: 1, Name: "A"}}, api.ErrSyntax},
		{[]api.Node{{Op: 7, N: 1, Name: "A", Left: 9}}, api.ErrRange},
		{[]api.Node{num(1), num(2), {Op: api.Plus, N: 1, Right: 1}}, api.ErrShape},
		{[]api.Node{num(1), num(2), {Op: api.Over, Name: "a", Right: 1}}, api.ErrShape},
		{[]api.Node{num(1), num(2), {Op: api.Over, Name: "a", Right: 2}}, api.ErrRange},
		{[]api.Node{stray, num(-1)}, api.ErrShape},
		{[]api.Node{stray, ref("A")}, api.ErrShape},
		{[]api.Node{num(-1), stray, ref("A")}, api.ErrRange},
		{[]api.Node{ref("A"), num(-1), stray}, api.ErrSyntax},
		{[]api.Node{num(1), ref("A")}, api.ErrSyntax},
		{[]api.Node{num(1), num(2), num(-1)}, api.ErrRange},
		{[]api.Node{num(1), both(api.Plus, 0, 0), both(api.Plus, 1, 2)}, api.ErrRange},
		{append([]api.Node{num(-1)}, sum(30)...), api.ErrFull},
	} {
		checkOne(t, c.l, c.want)
	}
}

// wrongNode tells of one what is wrong with it by itself, fault by fault as the chapter names them.
func wrongNode(n api.Node, i int) api.Errno {
	side := func(k int) bool { return k >= 0 && k < i }
	leaf, pair := n.Op == api.Num || n.Op == api.Ref, n.Op >= api.Plus && n.Op <= api.Over
	switch {
	case !leaf && !pair:
		return api.ErrRange
	case n.Op == api.Num && (n.N < 0 || n.N > 1_000_000):
		return api.ErrRange
	case n.Op == api.Ref && (n.Name == "" || n.Name == "A"):
		return api.ErrSyntax
	case pair && !(side(n.Left) && side(n.Right)):
		return api.ErrRange
	case n.Op != api.Num && n.N != 0, n.Op != api.Ref && n.Name != "", !pair && (n.Left != 0 || n.Right != 0):
		return api.ErrShape
	}
	return api.OK
}

// wrong tells of a few nodes what is wrong: whether they hang together by walking down from the last.
func wrong(l []api.Node) api.Errno {
	for i, n := range l {
		if e := wrongNode(n, i); e != api.OK {
			return e
		}
	}
	var met []int
	var walk func(i int)
	walk = func(i int) {
		met = append(met, i)
		if l[i].Op > api.Ref {
			walk(l[i].Left)
			walk(l[i].Right)
		}
	}
	walk(len(l) - 1)
	slices.Sort(met)
	if len(met) != len(l) || len(slices.Compact(met)) != len(l) {
		return api.ErrShape
	}
	return api.OK
}

// Every list of one or two nodes with a few values in each field.
func TestCheckEveryField(t *testing.T) {
	var some []api.Node
	for _, op := range []int{0, api.Num, api.Ref, api.Plus, api.Over, 7} {
		for _, n := range []int{0, 1, -1, 1_000_001} {
			for _, name := range []string{"", "a", "A"} {
				for left := -1; left <= 1; left++ {
					for right := -1; right <= 1; right++ {
						some = append(some, api.Node{Op: op, N: n, Name: name, Left: left, Right: right})
					}
				}
			}
		}
	}
	for _, a := range some {
		checkOne(t, []api.Node{a}, wrong([]api.Node{a}))
		for _, b := range some {
			l := []api.Node{a, b}
			if err := formula.Check(l); plain.Told(err) != wrong(l) {
				t.Errorf("Check(%v) = %v, want %v", l, err, wrong(l))
			}
		}
	}
}

// Every way in which up to four nodes could hang together, and five of which three are numbers.
func TestCheckEveryShape(t *testing.T) {
	right := 0
	var lay func(l []api.Node, count int)
	lay = func(l []api.Node, count int) {
		if len(l) == count {
			checkOne(t, l, wrong(l))
			if wrong(l) == api.OK {
				right++
			}
			return
		}
		l = append(slices.Clone(l), num(7))
		lay(l, count)
		for left := -1; left <= count-2; left++ {
			for side := -1; side <= count-2; side++ {
				l[len(l)-1] = both(api.Minus, left, side)
				lay(l, count)
			}
		}
	}
	for count := 1; count <= 4; count++ {
		lay(nil, count)
	}
	if right != 3 {
		t.Errorf("of up to four nodes %d lists are formulas", right)
	}
	for i := range 3 * 3 * 4 * 4 {
		l := []api.Node{num(1), num(2), num(3), both(api.Minus, i%3, i/3%3), both(api.Over, i/9%4, i/36)}
		checkOne(t, l, wrong(l))
	}
}

// trees of so many operands, as words: every shape, and every sign in it; some operands are numbers.
func trees(from, count int) []string {
	if count == 1 {
		return []string{[]string{"a", "7", "b", "0", "abcdefgh", "1000000"}[from%6]}
	}
	var out []string
	for k := 1; k < count; k++ {
		for _, left := range trees(from, k) {
			for _, right := range trees(from+k, count-k) {
				for _, sign := range "+-*/" {
					out = append(out, left+" "+right+" "+string(sign))
				}
			}
		}
	}
	return out
}

// full writes all of a formula with as many brackets as there are nodes.
func full(l []api.Node, i int) string {
	switch n := l[i]; n.Op {
	case api.Num:
		return "(" + strconv.Itoa(n.N) + ")"
	case api.Ref:
		return "(" + n.Name + ")"
	default:
		return "(" + full(l, n.Left) + "+-*/"[n.Op-api.Plus:][:1] + full(l, n.Right) + ")"
	}
}

// without answers all texts that lack one pair of brackets that belong together.
func without(text string) []string {
	var out []string
	var open []int
	for i, c := range text {
		switch c {
		case '(':
			open = append(open, i)
		case ')':
			k := open[len(open)-1]
			open = open[:len(open)-1]
			out = append(out, text[:k]+text[k+1:i]+text[i+1:])
		}
	}
	return out
}

// turned is a formula with the nodes of right sides ahead of those of left sides: another order, but the same formula.
func turned(l []api.Node) []api.Node {
	var out []api.Node
	var lay func(i int) int
	lay = func(i int) int {
		n := l[i]
		if n.Op > api.Ref {
			n.Right = lay(n.Right)
			n.Left = lay(l[i].Left)
		}
		out = append(out, n)
		return len(out) - 1
	}
	lay(len(l) - 1)
	return out
}

// Every formula of up to five operands: what Print writes is read as it was, and has no pair of brackets without which it would be, too.
func TestEveryFormula(t *testing.T) {
	for count := 1; count <= 5; count++ {
		for _, words := range trees(count, count) {
			l := nodes(words)
			text, err := formula.Print(l)
			if err != nil {
				t.Fatalf("Print(%v): %v", l, err)
			}
			parseOne(t, text, l, 0, api.OK)
			parseOne(t, full(l, len(l)-1), l, 0, api.OK)
			printOne(t, turned(l), text)
			for _, s := range without(text) {
				if got, _, err := formula.Parse(s); err == nil && slices.Equal(got, l) {
					t.Errorf("Print(%v) = %q, which is read the same as %q", l, text, s)
				}
			}
		}
	}
}

// The deepest that there may be, on either side.
func TestDeep(t *testing.T) {
	left := "a" + strings.Repeat(" b -", 14)
	printOne(t, nodes(left), "a"+strings.Repeat("-b", 14))
	right := strings.Repeat("b ", 14) + "a" + strings.Repeat(" -", 14)
	text := strings.Repeat("b-(", 13) + "b-a" + strings.Repeat(")", 13)
	printOne(t, nodes(right), text)
	parseOne(t, text, nodes(right), 0, api.OK)
	most := strings.Repeat("1000000 ", 14) + "1000000" + strings.Repeat(" *", 14)
	long, err := formula.Print(nodes(most))
	if err != nil || len(long) != 15*7+14+2*13 {
		t.Errorf("Print(%v) = %q, %v", nodes(most), long, err)
	}
	parseOne(t, long, nil, 0, api.ErrFull)
}

// P2: what is handed in stays as it was, what lies behind its length is not read, and what comes out is the caller's.
func TestNothingSharedOrWritten(t *testing.T) {
	want := nodes("b a / 7 b + *")
	l := append(append(make([]api.Node, 0, 20), want...), both(api.Plus, 6, 0), num(-1))[:len(want)]
	behind := slices.Clone(l[:len(l)+2])
	for range 2 {
		checkOne(t, l, api.OK)
		printOne(t, l, "b/a*(7+b)")
		refsOne(t, l, "a", "b")
		names, _ := formula.Refs(l)
		again, _ := formula.Refs(l)
		names = names[:cap(names)]
		for i := range names {
			names[i] = "x"
		}
		if !slices.Equal(again, []string{"a", "b"}) {
			t.Errorf("two answers share memory: %q", again)
		}
		a, _, _ := formula.Parse("b/a*(7+b)")
		b, _, _ := formula.Parse("b/a*(7+b)")
		a = a[:cap(a)]
		for i := range a {
			a[i] = num(-9)
		}
		if !slices.Equal(b, want) {
			t.Errorf("two answers share memory: %v", b)
		}
	}
	if !reflect.DeepEqual(l[:len(l)+2], behind) {
		t.Errorf("the nodes were written into: %v", l[:len(l)+2])
	}
}
