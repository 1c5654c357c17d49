package change_test

import (
	"fmt"
	"math"
	"reflect"
	"regexp"
	"slices"
	"strconv"
	"strings"
	"testing"
	"unsafe"

	"tallyhall/api"
	"tallyhall/calc"
	"tallyhall/change"
	"tallyhall/formula"
	"tallyhall/input"
	"tallyhall/outline"
	"tallyhall/place"
	"tallyhall/plain"
	"tallyhall/rules"
	"tallyhall/tree"
)

// cube reads dims, of each its name, its solve, and members as name:parent:sign:formula, blanks between.
func cube(dims ...string) api.Outline {
	var o api.Outline
	for _, text := range dims {
		w := strings.Fields(text)
		d := api.Dim{Name: w[0], Solve: number(w[1])}
		for _, m := range w[2:] {
			p := strings.Split(m, ":")
			d.Members = append(d.Members, api.Member{Name: p[0], Parent: number(p[1]), Sign: number(p[2]), Formula: p[3]})
		}
		o.Dims = append(o.Dims, d)
	}
	return o
}

// entries reads places with numbers, as 1.0=7, blanks between.
func entries(text string) []api.Entry {
	var out []api.Entry
	for _, w := range strings.Fields(text) {
		at, n, _ := strings.Cut(w, "=")
		var p api.Place
		for _, m := range strings.Split(at, ".") {
			p = append(p, number(m))
		}
		out = append(out, api.Entry{At: p, N: number(n)})
	}
	return out
}

func number(text string) int {
	n, err := strconv.Atoi(text)
	if err != nil {
		panic(err)
	}
	return n
}

// The changes, with just the fields that each has.
func add(dim int, name string, to, sign int) api.Change {
	return api.Change{What: api.Add, Dim: dim, Name: name, To: to, Sign: sign}
}

func remove(dim, member int) api.Change {
	return api.Change{What: api.Remove, Dim: dim, Member: member}
}

func rename(dim, member int, name string) api.Change {
	return api.Change{What: api.Rename, Dim: dim, Member: member, Name: name}
}

func move(dim, member, to int) api.Change {
	return api.Change{What: api.Move, Dim: dim, Member: member, To: to}
}

func resign(dim, member, sign int) api.Change {
	return api.Change{What: api.Resign, Dim: dim, Member: member, Sign: sign}
}

// same tells whether two cubes are; an empty list and none are the same.
func same(a api.Outline, l []api.Entry, b api.Outline, m []api.Entry) bool {
	return reflect.DeepEqual(a, b) && (len(l) == 0 && len(m) == 0 || reflect.DeepEqual(l, m))
}

// done: a change is, and this comes of it.
func done(t *testing.T, o api.Outline, l []api.Entry, c api.Change, want api.Outline, left []api.Entry) {
	t.Helper()
	got, m, err := change.Do(o, l, c)
	if err != nil || !same(got, m, want, left) {
		t.Errorf("Do(%v, %v, %+v) = %v, %v, %v, want %v, %v", o, l, c, got, m, err, want, left)
	}
}

// notDone: Do tells an error, and nothing else.
func notDone(t *testing.T, o api.Outline, l []api.Entry, c api.Change, e api.Errno) {
	t.Helper()
	got, m, err := change.Do(o, l, c)
	if got.Dims != nil || len(m) != 0 || plain.Told(err) != e {
		t.Errorf("Do(%s, %s, %s) = %v, %v, %v, want %v", short(o), short(l), short(c), got, m, err, e)
	}
}

// short text of what may be great.
func short(v any) string { return fmt.Sprintf("%.500s", fmt.Sprintf("%+v", v)) }

// shop has accounts, of which two have formulas, and times. Something is written at sales and costs, not at tax.
func shop() api.Outline {
	return cube("account 1 profit:-1:1: sales:0:1: costs:0:-1: tax:-1:1: margin:-1:0:(profit*100)/sales rate:-1:1:((7))", "time 0 year:-1:1: spring:0:1: autumn:0:1:")
}

const shopEntries = "1.1=200 1.2=0 2.1=-150 2.2=20"

// account of a shop that has other members there, and the times that it has.
func account(members string) api.Outline {
	return cube("account 1 "+members, "time 0 year:-1:1: spring:0:1: autumn:0:1:")
}

func TestAdd(t *testing.T) {
	o, l := shop(), entries(shopEntries)
	const was = "profit:-1:1: sales:0:1: costs:0:-1: tax:-1:1: margin:-1:0:(profit*100)/sales rate:-1:1:((7))"
	done(t, o, l, add(0, "gifts", 0, -1), account(was+" gifts:0:-1:"), l)
	done(t, o, l, add(0, "gifts", -1, 0), account(was+" gifts:-1:0:"), l)
	// A leaf gets a part, if nothing is written there.
	done(t, o, l, add(0, "land", 3, 1), account(was+" land:3:1:"), l)
	notDone(t, o, l, add(0, "land", 1, 1), api.ErrState)
	notDone(t, o, l, add(0, "land", 2, 0), api.ErrState)
	notDone(t, o, l, add(1, "may", 1, 1), api.ErrState)
	notDone(t, o, l, add(1, "may", 2, 1), api.ErrState)
	done(t, o, nil, add(0, "land", 1, 1), account(was+" land:1:1:"), nil)
	// What is 0 is written, too.
	notDone(t, o, entries("1.2=0"), add(1, "may", 2, 1), api.ErrState)
	done(t, o, entries("1.2=0"), add(1, "may", 1, 1), cube("account 1 "+was, "time 0 year:-1:1: spring:0:1: autumn:0:1: may:1:1:"), entries("1.2=0"))
	// In the last dim; a name that a member of another dim has may be taken.
	done(t, o, l, add(1, "sales", 0, -1), cube("account 1 "+was, "time 0 year:-1:1: spring:0:1: autumn:0:1: sales:0:-1:"), l)
	// No formula refs to what is new.
	done(t, cube("x 0 a:-1:1:(b) b:-1:1:"), nil, add(0, "c", 1, 1), cube("x 0 a:-1:1:(b) b:-1:1: c:1:1:"), nil)
	done(t, cube("x 9 a:-1:1:"), nil, add(0, "abcdefgh", 0, 1), cube("x 9 a:-1:1: abcdefgh:0:1:"), nil)
}

// Chapter 2's Check is asked first of all in Add, in its own order; then what is written.
func TestWrongAdds(t *testing.T) {
	o, l := shop(), entries(shopEntries)
	for _, name := range []string{"", "A", "abcdefghi", "a b", "a.b", "a=", "sal\xff", "é", "7", strings.Repeat("a", 1<<20)} {
		notDone(t, o, l, add(0, name, 0, 1), api.ErrSyntax)
		notDone(t, o, l, add(0, name, 99, 99), api.ErrSyntax)
		notDone(t, o, l, add(0, name, 1, 1), api.ErrSyntax)
	}
	for _, name := range []string{"profit", "sales", "rate"} {
		notDone(t, o, l, add(0, name, 0, 1), api.ErrClash)
		notDone(t, o, l, add(0, name, 99, 99), api.ErrClash)
		notDone(t, o, l, add(0, name, 4, 2), api.ErrClash)
		notDone(t, o, l, add(0, name, 1, 1), api.ErrClash)
	}
	// It cannot be a part of itself, which would stand at 6.
	for _, to := range []int{-2, 6, 7, math.MinInt, math.MaxInt} {
		notDone(t, o, l, add(0, "gifts", to, 1), api.ErrRange)
		notDone(t, o, l, add(0, "gifts", to, 7), api.ErrRange)
	}
	notDone(t, o, l, add(0, "gifts", 4, 1), api.ErrState)
	notDone(t, o, l, add(0, "gifts", 5, 7), api.ErrState)
	for _, sign := range []int{-2, 2, math.MinInt, math.MaxInt} {
		notDone(t, o, l, add(0, "gifts", 0, sign), api.ErrRange)
		notDone(t, o, l, add(0, "gifts", -1, sign), api.ErrRange)
		notDone(t, o, l, add(0, "gifts", 1, sign), api.ErrRange)
	}
}

func TestRemove(t *testing.T) {
	o, l := shop(), entries(shopEntries)
	done(t, o, l, remove(0, 2), account("profit:-1:1: sales:0:1: tax:-1:1: margin:-1:0:(profit*100)/sales rate:-1:1:((7))"), entries("1.1=200 1.2=0"))
	done(t, o, l, remove(0, 3), account("profit:-1:1: sales:0:1: costs:0:-1: margin:-1:0:(profit*100)/sales rate:-1:1:((7))"), l)
	done(t, o, l, remove(0, 4), account("profit:-1:1: sales:0:1: costs:0:-1: tax:-1:1: rate:-1:1:((7))"), l)
	done(t, o, l, remove(0, 5), account("profit:-1:1: sales:0:1: costs:0:-1: tax:-1:1: margin:-1:0:(profit*100)/sales"), l)
	const accounts = "account 1 profit:-1:1: sales:0:1: costs:0:-1: tax:-1:1: margin:-1:0:(profit*100)/sales rate:-1:1:((7))"
	done(t, o, l, remove(1, 1), cube(accounts, "time 0 year:-1:1: autumn:0:1:"), entries("1.1=0 2.1=20"))
	done(t, o, l, remove(1, 2), cube(accounts, "time 0 year:-1:1: spring:0:1:"), entries("1.1=200 2.1=-150"))
	// It has parts, whatever counts; or a formula refs to it.
	notDone(t, o, l, remove(0, 0), api.ErrState)
	notDone(t, o, l, remove(1, 0), api.ErrState)
	notDone(t, cube("x 0 a:-1:1: b:0:0:"), nil, remove(0, 0), api.ErrState)
	notDone(t, o, l, remove(0, 1), api.ErrNone)
	notDone(t, o, nil, remove(0, 1), api.ErrNone)
	notDone(t, cube("x 0 a:-1:1:b b:-1:1:c c:-1:1:1"), nil, remove(0, 1), api.ErrNone)
	done(t, cube("x 0 a:-1:1:b b:-1:1:c c:-1:1:1"), nil, remove(0, 0), cube("x 0 b:-1:1:c c:-1:1:1"), nil)
	// A formula of another dim refs to another one.
	done(t, cube("x 0 a:-1:1:b b:-1:1:", "y 0 a:-1:1: b:-1:1:"), entries("1.1=5"), remove(1, 1), cube("x 0 a:-1:1:b b:-1:1:", "y 0 a:-1:1:"), nil)
	// Parts of those that stand behind stay theirs, and parts of those ahead, too; what had parts may be a leaf then.
	done(t, cube("x 0 a:-1:1: b:0:1: c:0:-1: d:2:1: e:3:0: f:-1:1: g:0:1: h:5:1:"), entries("1=1 4=4 6=6 7=7"), remove(0, 1), cube("x 0 a:-1:1: c:0:-1: d:1:1: e:2:0: f:-1:1: g:0:1: h:4:1:"), entries("3=4 5=6 6=7"))
	done(t, cube("x 0 a:-1:1: b:0:1:"), entries("1=1"), remove(0, 1), cube("x 0 a:-1:1:"), nil)
	done(t, cube("x 0 a:-1:1: b:-1:1:"), entries("0=3 1=4"), remove(0, 0), cube("x 0 b:-1:1:"), entries("0=4"))
	done(t, cube("x 0 a:-1:1: b:-1:1:"), entries("0=3 1=4"), remove(0, 1), cube("x 0 a:-1:1:"), entries("0=3"))
	// The only one stays.
	notDone(t, cube("x 0 a:-1:1:"), entries("0=3"), remove(0, 0), api.ErrState)
	notDone(t, cube("x 0 a:-1:1:1"), nil, remove(0, 0), api.ErrState)
	notDone(t, cube("x 0 a:-1:1: b:-1:1:", "y 0 a:-1:1:"), entries("0.0=3"), remove(1, 0), api.ErrState)
	// Parts are told ahead of refs.
	notDone(t, cube("x 0 a:-1:1: b:0:1: c:-1:1:a"), nil, remove(0, 0), api.ErrState)
}

func TestRename(t *testing.T) {
	o, l := shop(), entries(shopEntries)
	// A formula that refs to it is written anew, any other one stands as it did.
	done(t, o, l, rename(0, 1, "income"), account("profit:-1:1: income:0:1: costs:0:-1: tax:-1:1: margin:-1:0:profit*100/income rate:-1:1:((7))"), l)
	done(t, o, l, rename(0, 0, "net"), account("net:-1:1: sales:0:1: costs:0:-1: tax:-1:1: margin:-1:0:net*100/sales rate:-1:1:((7))"), l)
	done(t, o, l, rename(0, 2, "spent"), account("profit:-1:1: sales:0:1: spent:0:-1: tax:-1:1: margin:-1:0:(profit*100)/sales rate:-1:1:((7))"), l)
	done(t, o, l, rename(0, 4, "share"), account("profit:-1:1: sales:0:1: costs:0:-1: tax:-1:1: share:-1:0:(profit*100)/sales rate:-1:1:((7))"), l)
	// To the name that it has: no other one has that, and formulas are written anew all the same.
	done(t, o, l, rename(0, 1, "sales"), account("profit:-1:1: sales:0:1: costs:0:-1: tax:-1:1: margin:-1:0:profit*100/sales rate:-1:1:((7))"), l)
	done(t, o, l, rename(0, 2, "costs"), o, l)
	// A member of another dim may have the name, and no formula of another dim is looked at.
	done(t, o, l, rename(0, 2, "spring"), account("profit:-1:1: sales:0:1: spring:0:-1: tax:-1:1: margin:-1:0:(profit*100)/sales rate:-1:1:((7))"), l)
	done(t, cube("x 0 a:-1:1:((b)) b:-1:1:", "y 0 a:-1:1:((b)) b:-1:1:"), entries("1.1=5"), rename(1, 1, "c"), cube("x 0 a:-1:1:((b)) b:-1:1:", "y 0 a:-1:1:c c:-1:1:"), entries("1.1=5"))
	// All refs in all formulas, and no name that only begins or ends so.
	done(t, cube("x 0 a:-1:1: aa:-1:1: ab:-1:1: ba:-1:1: p:-1:1:(a+(aa))*(ab-(ba-a))-a/(a*a) q:-1:1:(ab)+aa r:-1:1:p+(a)"), nil, rename(0, 0, "zz"),
		cube("x 0 zz:-1:1: aa:-1:1: ab:-1:1: ba:-1:1: p:-1:1:(zz+aa)*(ab-(ba-zz))-zz/(zz*zz) q:-1:1:(ab)+aa r:-1:1:p+zz"), nil)
	// What a formula comes to stays: brackets stand where they must.
	done(t, cube("x 0 a:-1:1: p:-1:1:(((a)-(2-a))/(3/a))*((1+2)*a)"), nil, rename(0, 0, "b"), cube("x 0 b:-1:1: p:-1:1:(b-(2-b))/(3/b)*((1+2)*b)"), nil)
	notDone(t, o, l, rename(0, 1, "profit"), api.ErrClash)
	notDone(t, o, l, rename(0, 0, "rate"), api.ErrClash)
	notDone(t, o, l, rename(1, 2, "spring"), api.ErrClash)
	for _, name := range []string{"", "A", "abcdefghi", "a b", "a.b", "a=", "sal\xff", "é", "7", "profits7", strings.Repeat("a", 1<<20)} {
		notDone(t, o, l, rename(0, 1, name), api.ErrSyntax)
	}
}

// A formula may have 100 bytes behind a Rename, and no more, wherever it stands.
func TestLongFormulas(t *testing.T) {
	// 10 refs with 9 signs, and a number of a few digits: 10n + 10 + digits bytes, for a name of n.
	refs := func(name, number string) string { return strings.Repeat(name+"+", 10) + number }
	for _, digits := range []string{"1", "1000000"} {
		o := cube("x 0 a:-1:1: p:-1:1:" + refs("a", digits))
		done(t, o, nil, rename(0, 0, "abcdefgh"), cube("x 0 abcdefgh:-1:1: p:-1:1:"+refs("abcdefgh", digits)), nil)
	}
	// 11 refs of 8 bytes with 10 signs have 98.
	full := strings.Repeat("abcdefgh+", 11)
	was := strings.Repeat("a+", 11)
	done(t, cube("x 0 a:-1:1: p:-1:1:"+was+"1"), nil, rename(0, 0, "abcdefgh"), cube("x 0 abcdefgh:-1:1: p:-1:1:"+full+"1"), nil)
	notDone(t, cube("x 0 a:-1:1: p:-1:1:"+was+"10"), nil, rename(0, 0, "abcdefgh"), api.ErrFull)
	notDone(t, cube("x 0 p:-1:1:"+was+"10 q:-1:1:a a:-1:1:"), entries("2=5"), rename(0, 2, "abcdefgh"), api.ErrFull)
	notDone(t, cube("y 0 a:-1:1:", "x 0 q:-1:1: a:-1:1: r:-1:1:a+1 p:-1:1:"+was+"10"), nil, rename(1, 1, "abcdefgh"), api.ErrFull)
	done(t, cube("x 0 a:-1:1: p:-1:1:"+was+"10"), nil, rename(0, 0, "abcdefg"), cube("x 0 abcdefg:-1:1: p:-1:1:"+strings.Repeat("abcdefg+", 11)+"10"), nil)
	// What counts is how it is written then: 100 bytes that are brackets for the most part leave room.
	o := cube("x 0 a:-1:1: p:-1:1:" + strings.Repeat("(", 49) + "a" + strings.Repeat(")", 49) + "+")
	o.Dims[0].Members[1].Formula += "2"
	notDone(t, o, nil, rename(0, 0, "abcdefgh"), api.ErrFull)
	o.Dims[0].Members[1].Formula = strings.Repeat("(", 48) + "a" + strings.Repeat(")", 48) + "+10"
	done(t, o, nil, rename(0, 0, "abcdefgh"), cube("x 0 abcdefgh:-1:1: p:-1:1:abcdefgh+10"), nil)
	// The name is told first, whichever stands ahead.
	notDone(t, cube("x 0 p:-1:1:"+was+"10 a:-1:1: abcdefgh:-1:1:"), nil, rename(0, 1, "abcdefgh"), api.ErrClash)
	notDone(t, cube("x 0 p:-1:1:"+was+"10 a:-1:1:"), nil, rename(0, 1, "abcdefghi"), api.ErrSyntax)
	notDone(t, cube("x 0 a:-1:1: p:-1:1:"+was+"10"), nil, rename(0, 0, "abcdefghi"), api.ErrSyntax)
	notDone(t, cube("x 0 a:-1:1: abcdefgh:-1:1:"+was+"10"), nil, rename(0, 0, "abcdefgh"), api.ErrClash)
}

func TestMove(t *testing.T) {
	o, l := shop(), entries(shopEntries)
	done(t, o, l, move(0, 2, -1), account("profit:-1:1: sales:0:1: costs:-1:-1: tax:-1:1: margin:-1:0:(profit*100)/sales rate:-1:1:((7))"), l)
	done(t, o, l, move(0, 3, 0), account("profit:-1:1: sales:0:1: costs:0:-1: tax:0:1: margin:-1:0:(profit*100)/sales rate:-1:1:((7))"), l)
	// A leaf gets a part, if nothing is written there; one that loses its last is a leaf.
	done(t, o, l, move(0, 5, 3), account("profit:-1:1: sales:0:1: costs:0:-1: tax:-1:1: margin:-1:0:(profit*100)/sales rate:3:1:((7))"), l)
	notDone(t, o, l, move(0, 5, 1), api.ErrState)
	notDone(t, o, l, move(0, 2, 1), api.ErrState)
	notDone(t, o, l, move(1, 2, 1), api.ErrState)
	done(t, o, nil, move(0, 2, 1), account("profit:-1:1: sales:0:1: costs:1:-1: tax:-1:1: margin:-1:0:(profit*100)/sales rate:-1:1:((7))"), nil)
	notDone(t, o, entries("1.1=0"), move(0, 2, 1), api.ErrState)
	done(t, cube("x 0 a:-1:1: b:0:1:"), entries("1=5"), move(0, 1, -1), cube("x 0 a:-1:1: b:-1:1:"), entries("1=5"))
	// With all its parts.
	done(t, cube("x 0 a:-1:1: b:-1:1: c:1:-1: d:2:0: e:2:1:"), entries("3=1 4=2"), move(0, 2, 0), cube("x 0 a:-1:1: b:-1:1: c:0:-1: d:2:0: e:2:1:"), entries("3=1 4=2"))
	// What has a formula can have no parts; what is its parent is it already, none too.
	notDone(t, o, l, move(0, 5, 4), api.ErrState)
	notDone(t, o, l, move(0, 1, 0), api.ErrState)
	notDone(t, o, l, move(0, 2, 0), api.ErrState)
	notDone(t, o, l, move(0, 0, -1), api.ErrState)
	notDone(t, o, l, move(0, 3, -1), api.ErrState)
	notDone(t, cube("x 0 a:-1:1:"), nil, move(0, 0, -1), api.ErrState)
	// It stands ahead.
	for _, to := range []int{-2, 2, 3, 4, 5, 6, math.MinInt, math.MaxInt} {
		notDone(t, o, l, move(0, 2, to), api.ErrRange)
	}
	notDone(t, o, l, move(0, 0, 0), api.ErrRange)
	notDone(t, o, l, move(0, 1, 4), api.ErrRange)
	notDone(t, o, l, move(0, 1, 2), api.ErrRange)
	// Whoever needs itself then, in a few steps.
	notDone(t, cube("x 0 a:-1:1: b:-1:1:a"), nil, move(0, 1, 0), api.ErrCycle)
	done(t, cube("x 0 a:-1:1: b:-1:0:a"), nil, move(0, 1, 0), cube("x 0 a:-1:1: b:0:0:a"), nil)
	notDone(t, cube("x 0 a:-1:1: b:0:1: c:-1:1: d:2:1:e e:-1:1:a"), nil, move(0, 2, 1), api.ErrCycle)
	done(t, cube("x 0 a:-1:1: b:0:0: c:-1:1: d:2:1:e e:-1:1:a"), nil, move(0, 2, 1), cube("x 0 a:-1:1: b:0:0: c:1:1: d:2:1:e e:-1:1:a"), nil)
	notDone(t, cube("y 0 z:-1:1:", "x 0 a:-1:1: b:-1:1:a"), entries("0.0=1"), move(1, 1, 0), api.ErrState)
}

func TestResign(t *testing.T) {
	o, l := shop(), entries(shopEntries)
	for sign, want := range map[int]string{1: "1", -1: "-1", 0: "0"} {
		done(t, o, l, resign(0, 2, sign), account("profit:-1:1: sales:0:1: costs:0:"+want+": tax:-1:1: margin:-1:0:(profit*100)/sales rate:-1:1:((7))"), l)
		done(t, o, l, resign(0, 0, sign), account("profit:-1:"+want+": sales:0:1: costs:0:-1: tax:-1:1: margin:-1:0:(profit*100)/sales rate:-1:1:((7))"), l)
		done(t, o, l, resign(0, 4, sign), account("profit:-1:1: sales:0:1: costs:0:-1: tax:-1:1: margin:-1:"+want+":(profit*100)/sales rate:-1:1:((7))"), l)
	}
	for _, sign := range []int{-2, 2, 3, math.MinInt, math.MaxInt} {
		notDone(t, o, l, resign(0, 2, sign), api.ErrRange)
		notDone(t, o, l, resign(1, 0, sign), api.ErrRange)
	}
	// What counts again may close a ring.
	ring := cube("x 0 a:-1:1: b:0:0:c c:-1:1:a")
	notDone(t, ring, nil, resign(0, 1, 1), api.ErrCycle)
	notDone(t, ring, nil, resign(0, 1, -1), api.ErrCycle)
	done(t, ring, nil, resign(0, 1, 0), ring, nil)
	done(t, ring, nil, resign(0, 2, 0), cube("x 0 a:-1:1: b:0:0:c c:-1:0:a"), nil)
}

// A change that is none, of a dim that is none, or of a member that is none, is told ahead of what it would be.
func TestNoSuchChange(t *testing.T) {
	o, l := shop(), entries(shopEntries)
	for _, what := range []int{0, -1, 6, 7, math.MinInt, math.MaxInt} {
		notDone(t, o, l, api.Change{What: what, Dim: 0, Member: 2, Name: "gifts", To: -1, Sign: 1}, api.ErrRange)
		notDone(t, o, l, api.Change{What: what, Dim: 0, Member: 1, Name: "costs", To: 1, Sign: 1}, api.ErrRange)
	}
	for what := api.Add; what <= api.Resign; what++ {
		for _, dim := range []int{-1, 2, 3, 4, math.MinInt, math.MaxInt} {
			notDone(t, o, l, api.Change{What: what, Dim: dim, Member: 2, Name: "gifts", To: -1, Sign: 1}, api.ErrRange)
			notDone(t, o, l, api.Change{What: what, Dim: dim, Member: 0, Name: "", To: 1, Sign: 1}, api.ErrRange)
		}
		for _, member := range []int{-1, 6, 7, math.MinInt, math.MaxInt} {
			c := api.Change{What: what, Dim: 0, Member: member, Name: "gifts", To: -1, Sign: 1}
			if what != api.Add {
				notDone(t, o, l, c, api.ErrRange)
				c.Name, c.To = "", 4
				notDone(t, o, l, c, api.ErrRange)
				c.Name, c.Sign = "sales", 7
				notDone(t, o, l, c, api.ErrRange)
			}
		}
		// As many members as the other dim has are none of this one.
		if what != api.Add {
			notDone(t, o, l, api.Change{What: what, Dim: 1, Member: 3, Name: "gifts", To: -1, Sign: 1}, api.ErrRange)
		}
	}
}

// Fields that a change has not may be anything.
func TestOtherFields(t *testing.T) {
	o, l := shop(), entries(shopEntries)
	for _, c := range []api.Change{add(0, "gifts", 0, -1), add(1, "may", 1, 1), remove(0, 2), remove(0, 1), remove(1, 0), rename(0, 1, "income"), rename(0, 1, "costs"), move(0, 2, -1), move(0, 2, 1), resign(0, 2, 0), resign(0, 2, 2)} {
		want, left, err := change.Do(o, l, c)
		for _, n := range []int{-1, 0, 1, 4, 99, math.MinInt, math.MaxInt} {
			for _, name := range []string{"", "A", "sales", "year", strings.Repeat("a", 1000)} {
				odd := api.Change{What: c.What, Dim: c.Dim, Member: n, Name: name, To: n, Sign: n}
				switch c.What {
				case api.Add:
					odd.Name, odd.To, odd.Sign = c.Name, c.To, c.Sign
				case api.Rename:
					odd.Member, odd.Name = c.Member, c.Name
				case api.Move:
					odd.Member, odd.To = c.Member, c.To
				case api.Resign:
					odd.Member, odd.Sign = c.Member, c.Sign
				default:
					odd.Member = c.Member
				}
				if err != nil {
					notDone(t, o, l, odd, plain.Told(err))
				} else {
					done(t, o, l, odd, want, left)
				}
			}
		}
	}
}

// wrongOutlines are what chapter 10 finds wrong.
func wrongOutlines() []api.Outline {
	return []api.Outline{
		{}, {Dims: []api.Dim{}}, {Dims: make([]api.Dim, 1)}, {Dims: make([]api.Dim, 5)}, {Dims: make([]api.Dim, 100_000)},
		cube("x 0"), cube("X 0 a:-1:1:"), cube("x 10 a:-1:1:"), cube("x -1 a:-1:1:"), cube("x 0" + strings.Repeat(" a:-1:1:", 13)), cube("x 0 a:-1:1:", "x 0 a:-1:1:"), cube("x 0 a:-1:1:", "y 0 a:-1:1: A:-1:1:"),
		cube("x 0 A:-1:1:"), cube("x 0 a:-1:1: a:-1:1:"), cube("x 0 a:0:1:"), cube("x 0 a:-2:1:"), cube("x 0 a:-1:2:"), cube("x 0 a:-1:1:1 b:0:1:"), cube("x 0 a:-1:1:" + strings.Repeat("1", 101)),
		cube("x 0 a:-1:1:a+"), cube("x 0 a:-1:1:b"), cube("x 0 a:-1:1:1000001"), cube("x 0 a:-1:1:1" + strings.Repeat("+1", 15)),
		cube("x 0 a:-1:1:a"), cube("x 0 a:-1:1: b:0:1:a"), cube("x 0 a:-1:1:b b:-1:1:a"), cube("x 0 a:-1:1:", "y 0 a:-1:1:a"),
	}
}

// Chapter 10's error comes first, though the change would mend it; then chapter 5's; then the change's own.
func TestWrongCubes(t *testing.T) {
	told := make([]int, 9)
	for _, o := range wrongOutlines() {
		_, _, err := rules.All(o)
		e := plain.Told(err)
		told[e]++
		for _, c := range []api.Change{{}, {Dim: 7, What: 7}, add(0, "z", -1, 1), add(0, "", 9, 9), remove(0, 0), remove(0, 1), remove(1, 0), rename(0, 0, "z"), move(0, 1, -1), resign(0, 0, 1), resign(0, 1, 0)} {
			notDone(t, o, nil, c, e)
			notDone(t, o, entries("0=9999999 7.7=1"), c, e)
		}
	}
	for _, e := range []api.Errno{api.ErrRange, api.ErrSyntax, api.ErrFull, api.ErrNone, api.ErrState, api.ErrClash, api.ErrCycle} {
		if told[e] == 0 {
			t.Errorf("%v was not told", e)
		}
	}
	if told[api.OK] > 0 {
		t.Error("some outline was right")
	}
	o := shop()
	for text, e := range map[string]api.Errno{
		"1=1": api.ErrShape, "1.1.1=1": api.ErrShape, "6.1=1": api.ErrRange, "1.3=1": api.ErrRange, "-1.1=1": api.ErrRange, "0.1=1": api.ErrState, "4.1=1": api.ErrState, "1.0=1": api.ErrState, "1.1=1000001": api.ErrRange, "1.1=-9223372036854775808": api.ErrRange, "1.1=1 1.1=1": api.ErrClash, "2.1=1 1.2=1": api.ErrClash, "4.1=1 1=1": api.ErrState,
	} {
		bad := entries(text)
		if err := input.Check(o, bad); plain.Told(err) != e {
			t.Fatalf("%q: chapter 5 tells %v, not %v", text, err, e)
		}
		for _, c := range []api.Change{{}, {Dim: 7, What: 7}, add(0, "z", -1, 1), add(0, "", 9, 9), add(0, "sales", 1, 1), remove(0, 1), remove(0, 2), remove(0, 4), rename(0, 0, "z"), rename(0, 0, "sales"), move(0, 2, -1), move(0, 2, 1), resign(0, 0, 1), resign(1, 2, 0)} {
			notDone(t, o, bad, c, e)
		}
	}
	notDone(t, o, []api.Entry{{}}, resign(0, 0, 1), api.ErrShape)
	notDone(t, o, []api.Entry{{At: make(api.Place, 100_000)}}, resign(0, 0, 1), api.ErrShape)
}

// flat cube of so many members a dim, none a part of another.
func flat(sizes ...int) api.Outline {
	var o api.Outline
	for i, n := range sizes {
		d := api.Dim{Name: string(rune('w' + i)), Solve: i}
		for k := range n {
			d.Members = append(d.Members, api.Member{Name: string(rune('a' + k)), Parent: -1, Sign: 1})
		}
		o.Dims = append(o.Dims, d)
	}
	return o
}

// No dim has more than 12 members, and no cube more than 3000 places.
func TestSizes(t *testing.T) {
	want := flat(12)
	want.Dims[0].Members[11].Name = "zz"
	done(t, flat(11), nil, add(0, "zz", -1, 1), want, nil)
	for _, c := range []api.Change{add(0, "zz", -1, 1), add(0, "", -1, 1), add(0, "a", 99, 99), add(0, "zz", 3, 1)} {
		notDone(t, flat(12), entries("3=1"), c, api.ErrFull)
	}
	done(t, flat(12), entries("3=1 11=2"), remove(0, 3), without(flat(12), 0, 3), entries("10=2"))
	// Of 12, 5, 5 and 9 members there are 2700 places; with one more of the last 3000, and with one more then too many.
	great := flat(12, 5, 5, 9)
	want = flat(12, 5, 5, 10)
	done(t, great, nil, add(3, "j", -1, 1), want, nil)
	for dim := range 3 {
		if dim > 0 {
			notDone(t, great, nil, add(dim, "z", -1, 1), api.ErrFull)
			notDone(t, great, entries("0.0.0.0=1"), add(dim, "z", 0, 1), api.ErrState)
			notDone(t, great, nil, add(dim, "z", 0, 1), api.ErrFull)
			notDone(t, great, nil, add(dim, "z", 0, 2), api.ErrRange)
			notDone(t, great, nil, add(dim, "a", 0, 1), api.ErrClash)
		}
		notDone(t, want, nil, add(3, "z", -1, 1), api.ErrFull)
	}
	// All places of a great cube are written, and one member goes.
	var l, left []api.Entry
	for n := range 3000 {
		p := api.Place{n / 250, n / 50 % 5, n / 10 % 5, n % 10}
		l = append(l, api.Entry{At: p, N: n - 1500})
		if p[2] != 1 {
			left = append(left, api.Entry{At: api.Place{p[0], p[1], []int{0, 0, 1, 2, 3}[p[2]], p[3]}, N: n - 1500})
		}
	}
	done(t, want, l, remove(2, 1), without(want, 2, 1), left)
	done(t, want, l, rename(2, 1, "zz"), named(want, 2, 1, "zz"), l)
	notDone(t, want, l, move(2, 1, 0), api.ErrState)
	notDone(t, want, l, add(2, "zz", -1, 1), api.ErrFull)
	notDone(t, want, l, add(2, "zz", 4, 1), api.ErrState)
}

// without a member of a flat cube.
func without(o api.Outline, dim, i int) api.Outline {
	o = outline.Fresh(o)
	o.Dims[dim].Members = append(o.Dims[dim].Members[:i:i], o.Dims[dim].Members[i+1:]...)
	return o
}

// named otherwise, of a member to which nothing refs.
func named(o api.Outline, dim, i int, name string) api.Outline {
	o = outline.Fresh(o)
	o.Dims[dim].Members[i].Name = name
	return o
}

// dice that always fall alike.
type dice uint64

func (d *dice) roll(n int) int {
	*d = *d*6364136223846793005 + 1442695040888963407
	return int(uint64(*d) >> 33 % uint64(n))
}

// expression of so many operands, of which some are names, with brackets that are not needed.
func (d *dice) expression(names []string, operands int) string {
	if operands > 1 {
		k := 1 + d.roll(operands-1)
		return "(" + d.expression(names, k) + ")" + "+-**//"[d.roll(6):][:1] + "(" + d.expression(names, operands-k) + ")"
	}
	if d.roll(4) > 0 {
		return names[d.roll(len(names))]
	}
	return []string{"0", "1", "2", "10", "1000000"}[d.roll(5)]
}

// dim with formulas, if it may have some, right by chapter 10; names do not rise, so that their order is not that of places.
func (d *dice) dim(name string, size int, formulas bool) api.Dim {
	var names []string
	for i := range size {
		names = append(names, string(rune('a'+(i*7+3)%12)))
	}
	for {
		out := api.Dim{Name: name, Solve: d.roll(4)}
		for i := range size {
			m := api.Member{Name: names[i], Parent: d.roll(i+1) - 1, Sign: []int{1, 1, -1, 0}[d.roll(4)]}
			if m.Parent >= 0 && out.Members[m.Parent].Formula != "" {
				m.Parent = -1
			}
			if formulas && d.roll(4) == 0 {
				m.Formula = d.expression(names, 1+d.roll(5))
			}
			out.Members = append(out.Members, m)
		}
		if _, err := rules.Check(out); err == nil {
			return out
		}
	}
}

func (d *dice) outline(formulas bool) api.Outline {
	var o api.Outline
	dims := 1 + d.roll(3)
	most := []int{12, 6, 4}[dims-1]
	for i := range dims {
		o.Dims = append(o.Dims, d.dim(string(rune('w'+i)), 1+d.roll(most), formulas))
	}
	return o
}

// written at some places of leafs.
func (d *dice) written(t *testing.T, o api.Outline) []api.Entry {
	t.Helper()
	count, err := place.Cells(o)
	if err != nil {
		t.Fatal(err)
	}
	often := 1 + d.roll(4)
	var out []api.Entry
	for n := range count {
		p, err := place.Of(o, n)
		if err != nil {
			t.Fatal(err)
		}
		if leaf, _ := place.Leaf(o, p); leaf && d.roll(5) >= often {
			out = append(out, api.Entry{At: p, N: []int{0, 1, -1, 7, -30, 200, api.MaxInput, -api.MaxInput}[d.roll(8)]})
		}
	}
	return out
}

// change of a cube, now and then a wrong one.
func (d *dice) change(o api.Outline) api.Change {
	c := api.Change{What: 1 + d.roll(5), Dim: d.roll(len(o.Dims)), Sign: d.roll(3) - 1}
	members := len(o.Dims[c.Dim].Members)
	c.Member, c.To = d.roll(members), d.roll(members+1)-1
	if c.What == api.Move {
		c.To = d.roll(c.Member+1) - 1
	}
	c.Name = []string{"a", "b", "d", "k", "zz", "new", "long", "longest"}[d.roll(8)]
	switch d.roll(20) {
	case 0:
		c.What = []int{-1, 0, 6}[d.roll(3)]
	case 1:
		c.Dim = []int{-1, len(o.Dims)}[d.roll(2)]
	case 2:
		c.Member = []int{-1, members, members + 1}[d.roll(3)]
	case 3:
		c.To = []int{-2, c.Member, members, members + 1}[d.roll(4)]
	case 4:
		c.Sign = []int{-2, 2}[d.roll(2)]
	case 5:
		c.Name = []string{"", "A", "toolongone"}[d.roll(3)]
	}
	return c
}

// names is a cube of which all is told by names, none by a place.
type names struct {
	dims    []string // name and solve
	members [][]string
	parent  []map[string]string
	sign    []map[string]int
	formula []map[string]string
	written map[string]int
}

// read a cube.
func read(t *testing.T, o api.Outline, l []api.Entry) names {
	t.Helper()
	n := names{written: map[string]int{}}
	for _, d := range o.Dims {
		n.dims = append(n.dims, d.Name+" "+strconv.Itoa(d.Solve))
		var members []string
		parent, sign, formulas := map[string]string{}, map[string]int{}, map[string]string{}
		for _, m := range d.Members {
			members = append(members, m.Name)
			sign[m.Name], formulas[m.Name] = m.Sign, m.Formula
			if m.Parent >= 0 {
				parent[m.Name] = d.Members[m.Parent].Name
			}
		}
		n.members, n.parent, n.sign, n.formula = append(n.members, members), append(n.parent, parent), append(n.sign, sign), append(n.formula, formulas)
	}
	for _, e := range l {
		at, err := place.Print(o, e.At)
		if err != nil {
			t.Fatal(err)
		}
		n.written[at] = e.N
	}
	return n
}

// cube that is told so.
func (n names) cube(t *testing.T) (api.Outline, []api.Entry) {
	t.Helper()
	var o api.Outline
	for i, text := range n.dims {
		d := cube(text).Dims[0]
		for _, name := range n.members[i] {
			parent := -1
			if of, is := n.parent[i][name]; is {
				parent = slices.Index(n.members[i], of)
			}
			d.Members = append(d.Members, api.Member{Name: name, Parent: parent, Sign: n.sign[i][name], Formula: n.formula[i][name]})
		}
		o.Dims = append(o.Dims, d)
	}
	var l []api.Entry
	for at, v := range n.written {
		p, err := place.Parse(o, at)
		if err != nil {
			t.Fatal(err)
		}
		l = append(l, api.Entry{At: p, N: v})
	}
	slices.SortFunc(l, func(a, b api.Entry) int { return slices.Compare(a.At, b.At) })
	return o, l
}

// do a change that can be done: what is told of a member goes by its name.
func (n names) do(t *testing.T, c api.Change) {
	t.Helper()
	k := c.Dim
	name := c.Name
	if c.What != api.Add {
		name = n.members[k][c.Member]
	}
	switch c.What {
	case api.Add:
		n.members[k] = append(n.members[k], name)
		n.sign[k][name] = c.Sign
	case api.Remove:
		n.members[k] = slices.DeleteFunc(n.members[k], func(s string) bool { return s == name })
		for at := range n.written {
			if strings.Split(at, ".")[k] == name {
				delete(n.written, at)
			}
		}
	case api.Rename:
		n.rename(t, k, c.Member, c.Name)
	case api.Resign:
		n.sign[k][name] = c.Sign
	}
	if c.What == api.Add || c.What == api.Move {
		delete(n.parent[k], name)
		if c.To >= 0 {
			n.parent[k][name] = n.members[k][c.To]
		}
	}
}

var word = regexp.MustCompile("[a-z]+")

func (n names) rename(t *testing.T, k, i int, to string) {
	t.Helper()
	old := n.members[k][i]
	for name, text := range n.formula[k] {
		if !slices.Contains(word.FindAllString(text, -1), old) {
			continue
		}
		nodes, _, err := formula.Parse(word.ReplaceAllStringFunc(text, func(s string) string {
			if s == old {
				return to
			}
			return s
		}))
		if err != nil {
			t.Fatal(err)
		}
		if n.formula[k][name], err = formula.Print(nodes); err != nil {
			t.Fatal(err)
		}
	}
	parent, sign, text := n.parent[k][old], n.sign[k][old], n.formula[k][old]
	delete(n.parent[k], old)
	if parent != "" {
		n.parent[k][to] = parent
	}
	n.sign[k][to], n.formula[k][to] = sign, text
	for part, of := range n.parent[k] {
		if of == old {
			n.parent[k][part] = to
		}
	}
	n.members[k][i] = to
	all := map[string]int{}
	for at, v := range n.written {
		w := strings.Split(at, ".")
		if w[k] == old {
			w[k] = to
		}
		all[strings.Join(w, ".")] = v
	}
	clear(n.written)
	for at, v := range all {
		n.written[at] = v
	}
}

// wrong tells what is wrong with a change of a cube that is right, ahead of what comes of it: each thing that the chapter names, in its order, by the chapters that it names.
func wrong(o api.Outline, l []api.Entry, c api.Change) api.Errno {
	if c.What < 1 || c.What > 5 || c.Dim < 0 || c.Dim >= len(o.Dims) {
		return api.ErrRange
	}
	d := o.Dims[c.Dim]
	if c.What == api.Add {
		more := outline.Fresh(o).Dims[c.Dim]
		more.Members = append(more.Members, api.Member{Name: c.Name, Parent: c.To, Sign: c.Sign})
		if _, err := outline.Check(more); err != nil {
			return plain.Told(err)
		}
		if c.To >= 0 && writtenLeaf(o, l, c.Dim, c.To) {
			return api.ErrState
		}
		return api.OK
	}
	if c.Member < 0 || c.Member >= len(d.Members) {
		return api.ErrRange
	}
	switch c.What {
	case api.Remove:
		if parts, _ := tree.Parts(d, c.Member); len(parts) > 0 || len(d.Members) < 2 {
			return api.ErrState
		}
	case api.Rename:
		if err := outline.Name(c.Name); err != nil {
			return plain.Told(err)
		}
		if i, err := outline.Find(d, c.Name); err == nil && i != c.Member {
			return api.ErrClash
		}
	case api.Move:
		if c.To < -1 || c.To >= c.Member {
			return api.ErrRange
		}
		if c.To == d.Members[c.Member].Parent || c.To >= 0 && (d.Members[c.To].Formula != "" || writtenLeaf(o, l, c.Dim, c.To)) {
			return api.ErrState
		}
	case api.Resign:
		if c.Sign*c.Sign > 1 {
			return api.ErrRange
		}
	}
	return api.OK
}

func writtenLeaf(o api.Outline, l []api.Entry, dim, i int) bool {
	leaf, _ := tree.Leaf(o.Dims[dim], i)
	for _, e := range l {
		if leaf && e.At[dim] == i {
			return true
		}
	}
	return false
}

// Many changes, of which each is done by names, too; what comes is a cube, and is changed again.
func TestManyChanges(t *testing.T) {
	d := dice(17)
	told := map[int][]int{}
	for range 4000 {
		o := d.outline(true)
		l := d.written(t, o)
		for range 12 {
			c := d.change(o)
			if told[c.What] == nil {
				told[c.What] = make([]int, 9)
			}
			e := wrong(o, l, c)
			var want api.Outline
			var left []api.Entry
			if e == api.OK {
				n := read(t, o, l)
				n.do(t, c)
				want, left = n.cube(t)
				_, _, err := rules.All(want)
				e = plain.Told(err)
			}
			told[c.What][e]++
			if e != api.OK {
				notDone(t, o, l, c, e)
				continue
			}
			done(t, o, l, c, want, left)
			if err := input.Check(want, left); err != nil {
				t.Errorf("what comes of %v, %v, %+v is no cube: %v", o, l, c, err)
			}
			o, l = want, left
		}
		if t.Failed() {
			t.FailNow()
		}
	}
	for what, all := range map[int][]api.Errno{
		0: {api.ErrRange}, api.Add: {api.OK, api.ErrRange, api.ErrSyntax, api.ErrFull, api.ErrState, api.ErrClash}, api.Remove: {api.OK, api.ErrRange, api.ErrNone, api.ErrState}, api.Rename: {api.OK, api.ErrRange, api.ErrSyntax, api.ErrClash}, api.Move: {api.OK, api.ErrRange, api.ErrState, api.ErrCycle}, api.Resign: {api.OK, api.ErrRange, api.ErrCycle},
	} {
		for _, e := range all {
			if told[what] == nil || told[what][e] < 20 {
				t.Errorf("change %d: %v was told too seldom: %v", what, e, told[what])
			}
		}
	}
}

// values of all places, by their texts, but of those with a member that is left out.
func values(t *testing.T, o api.Outline, l []api.Entry, dim int, but string) map[string]api.Cell {
	t.Helper()
	cells, err := calc.All(o, l)
	if err != nil {
		t.Fatal(err)
	}
	out := map[string]api.Cell{}
	for n, c := range cells {
		p, err := place.Of(o, n)
		if err != nil {
			t.Fatal(err)
		}
		if o.Dims[dim].Members[p[dim]].Name == but {
			continue
		}
		text, err := place.Print(o, p)
		if err != nil {
			t.Fatal(err)
		}
		out[text] = c
	}
	return out
}

// changed cube; a change that is wrong leaves the one that there is.
func changed(o api.Outline, l []api.Entry, c api.Change) (api.Outline, []api.Entry, bool) {
	p, m, err := change.Do(o, l, c)
	if err != nil {
		return o, l, false
	}
	return p, m, true
}

// What does not matter does not matter: how a member is called; what counts nowhere; a member at which nothing is written, where there are no formulas.
func TestWhatDoesNotMatter(t *testing.T) {
	d := dice(18)
	seen := make([]int, 6)
	for range 1500 {
		o := d.outline(true)
		l := d.written(t, o)
		k := d.roll(len(o.Dims))
		i := d.roll(len(o.Dims[k].Members))
		before, err := calc.All(o, l)
		if err != nil {
			t.Fatal(err)
		}
		if p, m, is := changed(o, l, rename(k, i, "another")); is {
			seen[api.Rename]++
			after, err := calc.All(p, m)
			if err != nil || !slices.Equal(before, after) {
				t.Errorf("renamed %d.%d, %v, %v comes to %v, %v, not %v", k, i, o, l, after, err, before)
			}
		}
		if o.Dims[k].Members[i].Parent < 0 {
			p, m, is := changed(o, l, resign(k, i, d.roll(3)-1))
			after, err := calc.All(p, m)
			if !is || err != nil || !slices.Equal(before, after) {
				t.Errorf("with another sign of %d.%d, %v, %v comes to %v, %v, not %v", k, i, o, l, after, err, before)
			}
			seen[api.Resign]++
		}
		o = d.outline(false)
		l = d.written(t, o)
		k = d.roll(len(o.Dims))
		if p, m, is := changed(o, l, add(k, "new", d.roll(len(o.Dims[k].Members)+1)-1, d.roll(3)-1)); is {
			seen[api.Add]++
			if was, now := values(t, o, l, k, "new"), values(t, p, m, k, "new"); !reflect.DeepEqual(was, now) {
				t.Errorf("with a new member %v, %v comes to %v, not %v", o, l, now, was)
			}
			last := len(p.Dims[k].Members) - 1
			done(t, p, m, remove(k, last), o, l)
		}
		i = d.roll(len(o.Dims[k].Members))
		name := o.Dims[k].Members[i].Name
		idle, m, is := changed(o, l, resign(k, i, 0))
		if !is {
			t.Errorf("no sign 0 of %d.%d of %v, %v", k, i, o, l)
		}
		was := values(t, idle, m, k, name)
		if p, q, is := changed(idle, m, remove(k, i)); is {
			seen[api.Remove]++
			if now := values(t, p, q, k, name); !reflect.DeepEqual(was, now) {
				t.Errorf("without %s of dim %d, %v, %v comes to %v, not %v", name, k, idle, m, now, was)
			}
		}
		if p, q, is := changed(idle, m, move(k, i, d.roll(i+1)-1)); is {
			seen[api.Move]++
			if now := values(t, p, q, k, ""); !reflect.DeepEqual(values(t, idle, m, k, ""), now) {
				t.Errorf("with %s of dim %d elsewhere, %v, %v comes to %v", name, k, idle, m, now)
			}
		}
		if t.Failed() {
			t.FailNow()
		}
	}
	if slices.Min(seen[1:]) < 100 {
		t.Errorf("there were few of some change: %v", seen)
	}
}

// There and back it is the same, but for brackets that were not needed.
func TestThereAndBack(t *testing.T) {
	d := dice(19)
	for range 1000 {
		o := d.outline(true)
		l := d.written(t, o)
		k := d.roll(len(o.Dims))
		i := d.roll(len(o.Dims[k].Members))
		own := o.Dims[k].Members[i]
		once, m, is := changed(o, l, rename(k, i, own.Name))
		if !is {
			t.Fatalf("no rename of %d.%d to its own name, of %v, %v", k, i, o, l)
		}
		if p, q, is := changed(o, l, rename(k, i, "another")); is {
			done(t, p, q, rename(k, i, own.Name), once, m)
		}
		if p, q, is := changed(o, l, resign(k, i, d.roll(3)-1)); is {
			done(t, p, q, resign(k, i, own.Sign), o, l)
		}
		if p, q, is := changed(o, l, move(k, i, d.roll(i+1)-1)); is {
			done(t, p, q, move(k, i, own.Parent), o, l)
		}
		if t.Failed() {
			t.FailNow()
		}
	}
}

// P2: what is handed in stays as it was, what lies behind its length is not read, and what is told hangs on it alone.
func TestNothingWrittenOrKept(t *testing.T) {
	o, l := shop(), entries(shopEntries)
	o.Dims = append(make([]api.Dim, 0, 4), o.Dims...)
	o.Dims[:3][2] = api.Dim{Name: "X", Solve: 99}
	o.Dims[0].Members = append(make([]api.Member, 0, 9), o.Dims[0].Members...)
	o.Dims[0].Members[:7][6] = api.Member{Name: "gifts", Parent: 0, Sign: 1, Formula: "+"}
	l = append(make([]api.Entry, 0, 9), l...)
	l[:5][4] = api.Entry{At: api.Place{9}, N: -1}
	l[0].At = append(make(api.Place, 0, 4), l[0].At...)
	l[0].At[:3][2] = 9
	for range 2 {
		for _, c := range []api.Change{add(0, "gifts", 0, 1), add(0, "gifts", 1, 1), remove(0, 2), remove(0, 1), remove(0, 3), remove(1, 1), rename(0, 1, "income"), rename(0, 0, "gifts"), move(0, 3, 0), move(0, 3, 1), resign(0, 0, 0), resign(1, 2, -1)} {
			want, left, err := change.Do(shop(), entries(shopEntries), c)
			if err != nil {
				notDone(t, o, l, c, plain.Told(err))
			} else {
				done(t, o, l, c, want, left)
			}
		}
	}
	if !reflect.DeepEqual(o, shop()) || !reflect.DeepEqual(l, entries(shopEntries)) {
		t.Errorf("what was handed in was written into: %v, %v", o, l)
	}
	if o.Dims[:3][2].Solve != 99 || o.Dims[0].Members[:7][6].Formula != "+" || l[:5][4].N != -1 || l[0].At[:3][2] != 9 {
		t.Error("what lies behind was written into")
	}
	// Lists that are handed in may be the same one.
	members := cube("x 0 a:-1:1: b:-1:1: c:-1:1:(b)").Dims[0].Members
	o = api.Outline{Dims: []api.Dim{{Name: "x", Members: members}, {Name: "y", Members: members}}}
	done(t, o, nil, rename(1, 1, "z"), cube("x 0 a:-1:1: b:-1:1: c:-1:1:(b)", "y 0 a:-1:1: z:-1:1: c:-1:1:z"), nil)
	done(t, o, nil, remove(0, 0), cube("x 0 b:-1:1: c:-1:1:(b)", "y 0 a:-1:1: b:-1:1: c:-1:1:(b)"), nil)
	numbers := []int{0, 1, 2}
	l = []api.Entry{{At: numbers[:2], N: 5}, {At: numbers[1:], N: 6}}
	done(t, cube("x 0 a:-1:1: b:-1:1:", "y 0 a:-1:1: b:-1:1: c:-1:1: d:-1:1:"), l, remove(1, 0), cube("x 0 a:-1:1: b:-1:1:", "y 0 b:-1:1: c:-1:1: d:-1:1:"), entries("0.0=5 1.1=6"))
	if !slices.Equal(numbers, []int{0, 1, 2}) {
		t.Errorf("the places were written into: %v", numbers)
	}
}

// P2: what comes out is the caller's: no two lists of it share memory, and none is shared with what was handed in or comes out again.
func TestFreshMemory(t *testing.T) {
	for _, c := range []api.Change{add(0, "gifts", 0, 1), remove(0, 2), remove(0, 3), remove(1, 1), rename(0, 1, "income"), move(0, 3, 0), resign(0, 0, 0)} {
		o, l := shop(), entries(shopEntries)
		want, left, err := change.Do(shop(), entries(shopEntries), c)
		if err != nil {
			t.Fatal(err)
		}
		again, rest, _ := change.Do(o, l, c)
		for which := range 4 + len(left) {
			got, m, err := change.Do(o, l, c)
			if err != nil {
				t.Fatal(err)
			}
			apart, copied := outline.Fresh(got), input.Fresh(m)
			spoil(got, m, which)
			spoil(apart, copied, which)
			if !same(got, m, apart, copied) {
				t.Errorf("%+v: two lists share memory with list %d: %v, %v, want %v, %v", c, which, got, m, apart, copied)
			}
		}
		if !reflect.DeepEqual(o, shop()) || !reflect.DeepEqual(l, entries(shopEntries)) || !same(again, rest, want, left) {
			t.Errorf("%+v: memory is shared: %v, %v, %v, %v", c, o, l, again, rest)
		}
		// Nor does a change of what was handed in reach what came out.
		for which := range 4 + len(l) {
			spoil(o, l, which)
		}
		if !same(again, rest, want, left) {
			t.Errorf("%+v: memory is shared with what was handed in: %v, %v, want %v, %v", c, again, rest, want, left)
		}
	}
}

// Nor are the bytes of a text shared: of a name that comes in with the change, and of those that stay.
func TestFreshTexts(t *testing.T) {
	o := shop()
	for _, c := range []api.Change{add(0, "gifts", 0, 1), remove(0, 2), rename(0, 1, "income"), move(0, 3, 0), resign(0, 0, 0)} {
		got, _, err := change.Do(o, nil, c)
		if err != nil {
			t.Fatal(err)
		}
		texts := append(textsOf(o), c.Name)
		for _, text := range textsOf(got) {
			if slices.ContainsFunc(texts, func(s string) bool { return s == text && s != "" && unsafe.StringData(s) == unsafe.StringData(text) }) {
				t.Errorf("%+v: %q is shared", c, text)
			}
		}
	}
}

func textsOf(o api.Outline) []string {
	var out []string
	for _, d := range o.Dims {
		out = append(out, d.Name)
		for _, m := range d.Members {
			out = append(out, m.Name, m.Formula)
		}
	}
	return out
}

// spoil all that the memory of one list of a cube of two dims holds: of members, of dims, of entries, or of a place; but not what stands behind it.
func spoil(o api.Outline, l []api.Entry, which int) {
	switch which {
	case 0, 1:
		m := o.Dims[which].Members
		for i := range m[:cap(m)] {
			m[:cap(m)][i] = api.Member{Name: "SPOILT", Parent: 99}
		}
	case 2:
		for i := range o.Dims {
			o.Dims[i].Name, o.Dims[i].Solve = "SPOILT", 99
		}
	case 3:
		for i := range l {
			l[i].N = -7
		}
	default:
		p := l[which-4].At
		for i := range p[:cap(p)] {
			p[:cap(p)][i] = 99
		}
	}
}
