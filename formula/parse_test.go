package formula_test

import (
	"regexp"
	"strings"
	"testing"

	"tallyhall/api"
	"tallyhall/formula"
	"tallyhall/plain"
)

var (
	operands = regexp.MustCompile(`[a-z]+|0|[1-9][0-9]{0,6}`)
	joined   = regexp.MustCompile(`\(x\)|x[-+*/]x`)
)

// right tells whether a text is a formula's, by making ever shorter ones of it: each operand an x, and a pair of them, or one in brackets, another x.
func right(text string) bool {
	if strings.Contains(text, "!") {
		return false
	}
	s := operands.ReplaceAllString(text, "!")
	s = strings.ReplaceAll(s, "!", "x")
	for {
		next := joined.ReplaceAllString(s, "x")
		if next == s {
			return s == "x"
		}
		s = next
	}
}

// begins tells whether a formula's text could begin so: whether it is one with an operand behind it, if need be, and all brackets closed.
func begins(text string) bool {
	open := max(0, strings.Count(text, "(")-strings.Count(text, ")"))
	end := strings.Repeat(")", open)
	return right(text+end) || right(text+"a"+end)
}

// stops tells which byte of a text that is no formula's is the first that cannot stand there.
func stops(text string) int {
	for i := range len(text) {
		if !begins(text[:i+1]) {
			return i
		}
	}
	return len(text)
}

// split reads a text that is a formula's from the outside: at its last sign that stands in no brackets and binds least.
func split(text string) string {
	depth, at, least := 0, -1, 2
	for i, c := range text {
		switch c {
		case '(':
			depth++
		case ')':
			depth--
		case '+', '-', '*', '/':
			much := 1
			if c == '+' || c == '-' {
				much = 0
			}
			if depth == 0 && much <= least {
				at, least = i, much
			}
		}
	}
	switch {
	case at >= 0:
		return split(text[:at]) + " " + split(text[at+1:]) + " " + text[at:at+1]
	case text[0] == '(':
		return split(text[1 : len(text)-1])
	}
	return text
}

// readOne holds Parse against what the text is by the calls above.
func readOne(t *testing.T, text string) {
	t.Helper()
	if !right(text) {
		parseOne(t, text, nil, stops(text), api.ErrSyntax)
		return
	}
	l := nodes(split(text))
	switch e := plain.Told(formula.Check(l)); {
	case len(text) > 100:
		parseOne(t, text, nil, 0, api.ErrFull)
	case e != api.OK:
		parseOne(t, text, nil, 0, e)
	default:
		parseOne(t, text, l, 0, api.OK)
	}
}

// Every text of a few bytes, and of those that go wrong one byte, and two, more.
func TestParseEveryText(t *testing.T) {
	const some = "ab07+-*/()"
	formulas := 0
	var lay func(text string)
	lay = func(text string) {
		readOne(t, text)
		if right(text) {
			formulas++
		}
		if !begins(text) {
			parseOne(t, text+"a", nil, len(text)-1, api.ErrSyntax)
			parseOne(t, text+")(", nil, len(text)-1, api.ErrSyntax)
			return
		}
		for _, c := range some {
			if len(text) < 6 {
				lay(text + string(c))
			}
		}
	}
	lay("")
	if formulas < 1000 {
		t.Errorf("of all texts only %d are formulas", formulas)
	}
}

// Every byte behind every kind of beginning: few can stand there.
func TestParseEveryByte(t *testing.T) {
	for _, s := range []string{"", "(", "((", "a", "ab", "(a", "0", "7", "(0", "12", "a+", "a-", "a*", "a/", "a+(", "(a)", "((a)", "((a))", "(a+b", "1234567", "123456", "a+0", "a+9", "sales/costs"} {
		for c := range 256 {
			text := s + string([]byte{byte(c)})
			readOne(t, text)
			if !begins(text) {
				parseOne(t, text+"+a", nil, len(s), api.ErrSyntax)
				parseOne(t, text+text, nil, len(s), api.ErrSyntax)
			}
		}
	}
}

// Longer texts with a byte left out, another one in its stead, or one more.
func TestParseChanged(t *testing.T) {
	for _, text := range []string{
		"(sales-costs)*100/sales", "a+b*(c-d/(e+f))-7*(0)", "((((a))))-((1)+(2)*((3)))/(((b)))", "1000000/999999-10*(a+(b-(c*(d/e))))", "a/(b/(c/(d/(e/(f/(g/h))))))",
	} {
		readOne(t, text)
		for i := range len(text) + 1 {
			readOne(t, text[:i])
			readOne(t, text[i:])
			for _, c := range []string{"a", "0", "5", "+", "-", "*", "/", "(", ")", " ", "A", "_", ".", "\x00", "\xff", "\n"} {
				readOne(t, text[:i]+c+text[i:])
				if i < len(text) {
					readOne(t, text[:i]+c+text[i+1:])
				}
			}
			if i < len(text) {
				readOne(t, text[:i]+text[i+1:])
			}
		}
	}
}

func TestParseTable(t *testing.T) {
	for text, at := range map[string]int{
		"": 0, " ": 0, "+": 0, "-": 0, "-1": 0, "+a": 0, ")": 0, "()": 1, "(": 1, "((": 2, "(a": 2, "(a+": 3, "a+": 2, "a)": 1, "(a))": 3, "a b": 1, "a +b": 1, "a+ b": 2, "a ": 1, " a": 0,
		"a(b)": 1, "(a)b": 3, "(a)(b)": 3, "(a)7": 3, "7(a)": 1, "7a": 1, "a7": 1, "a++b": 2, "a+-b": 2, "a--1": 2, "a**b": 2, "a+*b": 2, "a//b": 2, "A": 0, "aB": 1, "a.b": 1, "a,b": 1,
		"00": 1, "01": 1, "0a": 1, "a+00": 3, "a+07": 3, "1e5": 1, "1.5": 1, "0x1": 1, "1_0": 1, "a%b": 1, "a^b": 1, "a=b": 1, "[a]": 0, "{a}": 0, "é": 0, "aé": 1, "a×b": 1, "a\n": 1, "a\x00": 1, "\x00": 0, "\xff": 0,
	} {
		parseOne(t, text, nil, at, api.ErrSyntax)
	}
}

// Seven digits are a number, be it too great; the eighth cannot stand there.
func TestParseNumbers(t *testing.T) {
	for _, s := range []string{"0", "1", "9", "10", "100", "999999", "1000000"} {
		parseOne(t, s, nodes(s), 0, api.OK)
		parseOne(t, "a/("+s+")", nodes("a "+s+" /"), 0, api.OK)
		parseOne(t, "0"+s, nil, 1, api.ErrSyntax)
	}
	for _, s := range []string{"1000001", "1000010", "2000000", "9999999"} {
		parseOne(t, s, nil, 0, api.ErrRange)
		parseOne(t, "a/("+s+")", nil, 0, api.ErrRange)
		parseOne(t, s+"0", nil, 7, api.ErrSyntax)
	}
	for _, s := range []string{"10000000", "12345678", "99999999", "10000000000000000000000000", "1000000a", "1000000("} {
		parseOne(t, s, nil, 7, api.ErrSyntax)
		parseOne(t, "a+"+s, nil, 9, api.ErrSyntax)
	}
	parseOne(t, "00000001", nil, 1, api.ErrSyntax)
}

// A name has as many letters as there are; more than eight are no name, which is Check's to tell.
func TestParseNames(t *testing.T) {
	parseOne(t, "abcdefgh", nodes("abcdefgh"), 0, api.OK)
	for n := 9; n <= 100; n++ {
		parseOne(t, strings.Repeat("a", n), nil, 0, api.ErrSyntax)
	}
	parseOne(t, "a+abcdefghi", nil, 0, api.ErrSyntax)
	parseOne(t, "abcdefghi+1000001", nil, 0, api.ErrSyntax)
	parseOne(t, "1000001+abcdefghi", nil, 0, api.ErrRange)
	parseOne(t, "abcdefghi7", nil, 9, api.ErrSyntax)
}

// As many nodes as may be; more are Check's to tell, ahead of what is wrong with one.
func TestParseMany(t *testing.T) {
	parseOne(t, "a"+strings.Repeat("+a", 14), nodes("a"+strings.Repeat(" a +", 14)), 0, api.OK)
	parseOne(t, "a"+strings.Repeat("+a", 15), nil, 0, api.ErrFull)
	parseOne(t, "a"+strings.Repeat("+a", 49), nil, 0, api.ErrFull)
	parseOne(t, "1000001"+strings.Repeat("+a", 15), nil, 0, api.ErrFull)
	parseOne(t, "1000001"+strings.Repeat("+a", 14), nil, 0, api.ErrRange)
	parseOne(t, strings.Repeat("a+(", 15)+"a"+strings.Repeat(")", 15), nil, 0, api.ErrFull)
	parseOne(t, "a"+strings.Repeat("+a", 15)+"+", nil, 32, api.ErrSyntax)
}

// nested in so many brackets.
func nested(text string, deep int) string {
	return strings.Repeat("(", deep) + text + strings.Repeat(")", deep)
}

// A hundred bytes are no more than may be; of more the length is told, but behind a byte that cannot stand there.
func TestParseLong(t *testing.T) {
	parseOne(t, nested("ab", 49), nodes("ab"), 0, api.OK)
	parseOne(t, nested("a", 49), nodes("a"), 0, api.OK)
	parseOne(t, nested("a+b", 48), nodes("a b +"), 0, api.OK)
	parseOne(t, nested("a", 50), nil, 0, api.ErrFull)
	parseOne(t, nested("abc", 49), nil, 0, api.ErrFull)
	parseOne(t, strings.Repeat("a", 101), nil, 0, api.ErrFull)
	parseOne(t, "a"+strings.Repeat("+a", 50), nil, 0, api.ErrFull)
	parseOne(t, "1000001"+strings.Repeat("+a", 50), nil, 0, api.ErrFull)
	parseOne(t, strings.Repeat("(", 100), nil, 100, api.ErrSyntax)
	parseOne(t, strings.Repeat("(", 101), nil, 101, api.ErrSyntax)
	parseOne(t, strings.Repeat(" ", 101), nil, 0, api.ErrSyntax)
	parseOne(t, strings.Repeat("7", 101), nil, 7, api.ErrSyntax)
	parseOne(t, nested("a", 50)+")", nil, 101, api.ErrSyntax)
	parseOne(t, nested("a", 50)+"+", nil, 102, api.ErrSyntax)
	parseOne(t, nested("", 60), nil, 60, api.ErrSyntax)
	parseOne(t, strings.Repeat("a", 101)+" ", nil, 101, api.ErrSyntax)
}

// A text as long as one likes ends the same, however deep its brackets are.
func TestParseEndless(t *testing.T) {
	const many = 10_000_000
	parseOne(t, strings.Repeat("(", many), nil, many, api.ErrSyntax)
	parseOne(t, strings.Repeat(")", many), nil, 0, api.ErrSyntax)
	parseOne(t, strings.Repeat("7", many), nil, 7, api.ErrSyntax)
	parseOne(t, nested("a", many), nil, 0, api.ErrFull)
	parseOne(t, nested("a", many)+")", nil, 2*many+1, api.ErrSyntax)
	parseOne(t, strings.Repeat("a", many), nil, 0, api.ErrFull)
	parseOne(t, strings.Repeat("a*(0-", many/5)+"a", nil, many+1, api.ErrSyntax)
	parseOne(t, "a"+strings.Repeat("/a", many/2), nil, 0, api.ErrFull)
}

func FuzzParse(f *testing.F) {
	for _, s := range []string{"", "a", "(a+7)*b", "a-(b-c)", "a/", "((", "0-00", "1000001", "\x00", "abcdefghi"} {
		f.Add(s)
	}
	f.Fuzz(func(t *testing.T, text string) {
		if len(text) > 300 {
			t.Skip("the other way of reading is slow")
		}
		readOne(t, text)
		if l, _, err := formula.Parse(text); err == nil {
			printed, _ := formula.Print(l)
			parseOne(t, printed, l, 0, api.OK)
		}
	})
}
