package cell_test

import (
	"math"
	"math/big"
	"regexp"
	"strconv"
	"strings"
	"testing"

	"tallyhall/api"
	"tallyhall/cell"
	"tallyhall/plain"
)

const most = api.MaxValue

var (
	empty = api.Cell{Kind: api.Empty}
	fault = api.Cell{Kind: api.Fault}
)

func num(n int) api.Cell { return api.Cell{Kind: api.Number, N: n} }

// edges are numbers about which sums, products and sizes turn.
var edges = []int{
	0, 1, -1, 2, -2, 3, -3, 7, -7, 10, -10, 999999, -999999, 1000000, -1000000, 1000001, -1000001,
	most / 2, -most / 2, most/2 + 1, -most/2 - 1, most - 1, 1 - most, most, -most,
}

// beyond are numbers that stand in no cell.
var beyond = []int{most + 1, -most - 1, 1 << 62, -1 << 62, math.MaxInt, math.MinInt, math.MinInt + 1}

// wrong are cells that Check refuses.
func wrong() []api.Cell {
	l := []api.Cell{
		{Kind: 3}, {Kind: -1}, {Kind: 3, N: 5}, {Kind: math.MaxInt}, {Kind: math.MinInt, N: math.MinInt},
		{Kind: api.Empty, N: 1}, {Kind: api.Empty, N: -1}, {Kind: api.Fault, N: 1}, {Kind: api.Fault, N: -most},
	}
	for _, n := range beyond {
		l = append(l, num(n), api.Cell{Kind: api.Empty, N: n}, api.Cell{Kind: api.Fault, N: n})
	}
	return l
}

// right are cells that Check takes.
func right() []api.Cell {
	l := []api.Cell{empty, fault}
	for _, n := range edges {
		l = append(l, num(n))
	}
	return l
}

type sign struct {
	name string
	do   func(a, b api.Cell) (api.Cell, error)
	big  func(x, y *big.Int) *big.Int // nil: there is none
	sums bool                         // Empty counts as 0
}

func signs() []sign {
	return []sign{
		{"Add", cell.Add, func(x, y *big.Int) *big.Int { return new(big.Int).Add(x, y) }, true},
		{"Sub", cell.Sub, func(x, y *big.Int) *big.Int { return new(big.Int).Sub(x, y) }, true},
		{"Mul", cell.Mul, func(x, y *big.Int) *big.Int { return new(big.Int).Mul(x, y) }, false},
		{"Div", cell.Div, func(x, y *big.Int) *big.Int {
			if y.Sign() == 0 {
				return nil
			}
			return new(big.Int).Quo(x, y)
		}, false},
	}
}

// want tells by numbers without bounds what two right cells come to.
func (s sign) want(a, b api.Cell) api.Cell {
	switch {
	case a.Kind == api.Fault || b.Kind == api.Fault:
		return fault
	case a.Kind == api.Empty && b.Kind == api.Empty:
		return empty
	case !s.sums && (a.Kind == api.Empty || b.Kind == api.Empty):
		return empty
	}
	n := s.big(big.NewInt(int64(a.N)), big.NewInt(int64(b.N)))
	if n == nil || n.CmpAbs(big.NewInt(most)) > 0 {
		return fault
	}
	return num(int(n.Int64()))
}

// C1: Check.
func TestCheck(t *testing.T) {
	for _, c := range right() {
		if err := cell.Check(c); err != nil {
			t.Errorf("Check(%v) = %v, want nil", c, err)
		}
	}
	for _, c := range wrong() {
		if err := cell.Check(c); plain.Told(err) != api.ErrRange {
			t.Errorf("Check(%v) = %v, want ErrRange", c, err)
		}
	}
}

// C1: Of.
func TestOf(t *testing.T) {
	for _, n := range edges {
		if got := cell.Of(n); got != num(n) {
			t.Errorf("Of(%d) = %v, want a Number", n, got)
		}
	}
	for _, n := range beyond {
		if got := cell.Of(n); got != fault {
			t.Errorf("Of(%d) = %v, want a Fault", n, got)
		}
	}
}

// C1: what is told by the document's words, written out.
func TestTwoCells(t *testing.T) {
	for _, c := range []struct {
		a, b               api.Cell
		add, sub, mul, div api.Cell
	}{
		{num(7), num(2), num(9), num(5), num(14), num(3)},
		{num(-7), num(2), num(-5), num(-9), num(-14), num(-3)},
		{num(7), num(-2), num(5), num(9), num(-14), num(-3)},
		{num(-7), num(-2), num(-9), num(-5), num(14), num(3)},
		{num(-1), num(2), num(1), num(-3), num(-2), num(0)},
		{num(5), num(0), num(5), num(5), num(0), fault},
		{num(0), num(0), num(0), num(0), num(0), fault},
		{num(0), num(5), num(5), num(-5), num(0), num(0)},
		{num(most), num(1), fault, num(most - 1), num(most), num(most)},
		{num(-most), num(1), num(1 - most), fault, num(-most), num(-most)},
		{num(-most), num(-1), fault, num(1 - most), num(most), num(most)},
		{num(1000000), num(1000000), num(2000000), num(0), num(most), num(1)},
		{num(1000001), num(1000000), num(2000001), num(1), fault, num(1)},
		{num(-1000000), num(1000000), num(0), num(-2000000), num(-most), num(-1)},
		// These wrap round to small numbers, if they are multiplied as int.
		{num(1 << 32), num(1 << 32), num(1 << 33), num(0), fault, num(1)},
		{num(1 << 39), num(1 << 25), num(1<<39 + 1<<25), num(1<<39 - 1<<25), fault, num(1 << 14)},
		{num(-1 << 39), num(1 << 39), num(0), fault, fault, num(-1)},
		{empty, empty, empty, empty, empty, empty},
		{empty, num(4), num(4), num(-4), empty, empty},
		{num(4), empty, num(4), num(4), empty, empty},
		{empty, num(0), num(0), num(0), empty, empty},
		{num(0), empty, num(0), num(0), empty, empty},
		{fault, fault, fault, fault, fault, fault},
		{fault, empty, fault, fault, fault, fault},
		{empty, fault, fault, fault, fault, fault},
		{fault, num(0), fault, fault, fault, fault},
		{num(0), fault, fault, fault, fault, fault},
	} {
		want := []api.Cell{c.add, c.sub, c.mul, c.div}
		for i, s := range signs() {
			if got, err := s.do(c.a, c.b); got != want[i] || err != nil {
				t.Errorf("%s(%v, %v) = %v, %v, want %v", s.name, c.a, c.b, got, err, want[i])
			}
		}
	}
}

// C1: every two right cells come to what numbers without bounds come to.
func TestTwoCellsAtEdges(t *testing.T) {
	for _, s := range signs() {
		for _, a := range right() {
			for _, b := range right() {
				got, err := s.do(a, b)
				if want := s.want(a, b); got != want || err != nil {
					t.Errorf("%s(%v, %v) = %v, %v, want %v", s.name, a, b, got, err, want)
				}
			}
		}
	}
}

// C1: a product is a Fault from just one above MaxValue on.
func TestMulTurnsAtMaxValue(t *testing.T) {
	for y := 1; y <= 3000; y++ {
		x := most / y
		if got, _ := cell.Mul(num(x), num(-y)); got != num(-x*y) {
			t.Errorf("Mul(%d, %d) = %v, want %d", x, -y, got, -x*y)
		}
		if got, _ := cell.Mul(num(-y), num(min(x+1, most))); y > 1 && got != fault {
			t.Errorf("Mul(%d, %d) = %v, want a Fault", -y, x+1, got)
		}
	}
}

// C1: a cell that is wrong is told whatever stands beside it, and nothing else is.
func TestTwoCellsOfWhichOneIsWrong(t *testing.T) {
	for _, s := range signs() {
		for _, bad := range wrong() {
			for _, other := range append(right(), wrong()...) {
				for _, two := range [][2]api.Cell{{bad, other}, {other, bad}} {
					got, err := s.do(two[0], two[1])
					if got != (api.Cell{}) || plain.Told(err) != api.ErrRange {
						t.Errorf("%s(%v, %v) = %v, %v, want ErrRange alone", s.name, two[0], two[1], got, err)
					}
				}
			}
		}
	}
}

// C2: Print.
func TestPrint(t *testing.T) {
	for _, c := range []struct {
		c    api.Cell
		want string
	}{
		{empty, "-"}, {fault, "#"}, {num(0), "0"}, {num(7), "7"}, {num(-7), "-7"}, {num(10), "10"},
		{num(most), "1000000000000"}, {num(-most), "-1000000000000"},
	} {
		if got, err := cell.Print(c.c); got != c.want || err != nil {
			t.Errorf("Print(%v) = %q, %v, want %q", c.c, got, err, c.want)
		}
	}
	for _, c := range wrong() {
		if got, err := cell.Print(c); got != "" || plain.Told(err) != api.ErrRange {
			t.Errorf("Print(%v) = %q, %v, want ErrRange alone", c, got, err)
		}
	}
}

// C2: what is written is read as it was.
func TestPrintParse(t *testing.T) {
	for _, c := range right() {
		text, err := cell.Print(c)
		if err != nil {
			t.Fatalf("Print(%v): %v", c, err)
		}
		if got, err := cell.Parse(text); got != c || err != nil {
			t.Errorf("Parse(%q) = %v, %v, want %v", text, got, err, c)
		}
	}
}

// C2: Parse of texts that are none.
func TestParseWrong(t *testing.T) {
	for _, c := range []struct {
		text string
		want api.Errno
	}{
		{"1000000000001", api.ErrRange},
		{"-1000000000001", api.ErrRange},
		{"999999999999999", api.ErrRange},
		{"-999999999999999", api.ErrRange},
		{"100000000000000", api.ErrRange},
		{"1000000000000000", api.ErrSyntax},
		{"-1000000000000000", api.ErrSyntax},
		{"0000000000000001", api.ErrSyntax},
		{"000000000000001", api.ErrSyntax},
		{"099999999999999", api.ErrSyntax},
		{"9223372036854775808", api.ErrSyntax},
		{strings.Repeat("9", 5000), api.ErrSyntax},
		{strings.Repeat("-", 5000), api.ErrSyntax},
		{"", api.ErrSyntax},
		{"-0", api.ErrSyntax},
		{"00", api.ErrSyntax},
		{"01", api.ErrSyntax},
		{"-01", api.ErrSyntax},
		{"+1", api.ErrSyntax},
		{"--", api.ErrSyntax},
		{"--1", api.ErrSyntax},
		{"1-", api.ErrSyntax},
		{"##", api.ErrSyntax},
		{"#-", api.ErrSyntax},
		{"-#", api.ErrSyntax},
		{"#1", api.ErrSyntax},
		{" 1", api.ErrSyntax},
		{"1 ", api.ErrSyntax},
		{"- 1", api.ErrSyntax},
		{"1\n", api.ErrSyntax},
		{"-\n", api.ErrSyntax},
		{"#\x00", api.ErrSyntax},
		{"1_0", api.ErrSyntax},
		{"0x1", api.ErrSyntax},
		{"1e3", api.ErrSyntax},
		{"1.0", api.ErrSyntax},
		{"a", api.ErrSyntax},
		{"\xff", api.ErrSyntax},
		{"\u0661", api.ErrSyntax},
		{"\u2212" + "1", api.ErrSyntax},
	} {
		if got, err := cell.Parse(c.text); got != (api.Cell{}) || plain.Told(err) != c.want {
			t.Errorf("Parse(%q) = %v, %v, want %v alone", c.text, got, err, c.want)
		}
	}
}

// C2: Parse takes just what a rule of its own takes, of all short texts of some bytes.
func TestParseAllShort(t *testing.T) {
	rule := regexp.MustCompile(`^(0|-?[1-9][0-9]*)$`)
	const letters = "-#+01_ 9\n\xffx."
	texts := []string{""}
	for i := 0; len(texts[i]) < 4; i++ {
		for j := range len(letters) {
			texts = append(texts, texts[i]+letters[j:j+1])
		}
	}
	for _, text := range texts {
		want, wrong := api.Cell{}, api.ErrSyntax
		switch {
		case text == "-":
			want, wrong = empty, api.OK
		case text == "#":
			want, wrong = fault, api.OK
		case rule.MatchString(text):
			n, _ := strconv.Atoi(text)
			want, wrong = num(n), api.OK
		}
		if got, err := cell.Parse(text); got != want || plain.Told(err) != wrong {
			t.Errorf("Parse(%q) = %v, %v, want %v, %v", text, got, err, want, wrong)
		}
	}
}
