package log_test

import (
	"fmt"
	"math"
	"reflect"
	"slices"
	"strconv"
	"strings"
	"testing"

	"tallyhall/api"
	"tallyhall/input"
	"tallyhall/log"
	"tallyhall/place"
	"tallyhall/plain"
	"tallyhall/rules"
)

// cube reads dims, of each its name, its solve, and members as name:parent:sign:formula, blanks between.
func cube(dims ...string) api.Outline {
	var o api.Outline
	for _, text := range dims {
		w := strings.Fields(text)
		d := api.Dim{Name: w[0], Solve: number(w[1])}
		for _, m := range w[2:] {
			p := strings.Split(m, ":")
			d.Members = append(d.Members, api.Member{Name: p[0], Parent: number(p[1]), Sign: number(p[2]), Formula: p[3]})
		}
		o.Dims = append(o.Dims, d)
	}
	return o
}

// sized is a cube of leafs, of each dim so many.
func sized(counts ...int) api.Outline {
	var o api.Outline
	for i, n := range counts {
		d := api.Dim{Name: string(rune('p' + i))}
		for k := range n {
			d.Members = append(d.Members, api.Member{Name: string(rune('a' + k)), Parent: -1, Sign: 1})
		}
		o.Dims = append(o.Dims, d)
	}
	return o
}

// edits reads places with numbers, as 1.0=7, or with ! to clear, as 1.0!, blanks between.
func edits(text string) []api.Edit {
	var out []api.Edit
	for _, w := range strings.Fields(text) {
		at, n, sets := strings.Cut(w, "=")
		at, drops := strings.CutSuffix(at, "!")
		if sets == drops {
			panic(w)
		}
		e := api.Edit{Clear: drops}
		if sets {
			e.N = number(n)
		}
		for _, m := range strings.Split(at, ".") {
			e.At = append(e.At, number(m))
		}
		out = append(out, e)
	}
	return out
}

// entries reads places with numbers, as 1.0=7, blanks between.
func entries(text string) []api.Entry {
	var out []api.Entry
	for _, e := range edits(text) {
		out = append(out, api.Entry{At: e.At, N: e.N})
	}
	return out
}

func number(text string) int {
	n, err := strconv.Atoi(text)
	if err != nil {
		panic(err)
	}
	return n
}

// places of an outline in order, counted up from the last dim: another way than chapter 4's.
func places(o api.Outline) []api.Place {
	out := []api.Place{{}}
	for _, d := range o.Dims {
		var longer []api.Place
		for _, p := range out {
			for k := range d.Members {
				longer = append(longer, append(slices.Clone(p), k))
			}
		}
		out = longer
	}
	return out
}

// shop has accounts, of which the margin has a formula, and times.
func shop() api.Outline {
	return cube("account 1 profit:-1:1: sales:0:1: costs:0:-1: margin:-1:1:profit*100/sales", "time 0 year:-1:1: spring:0:1: autumn:0:1:")
}

func open(t *testing.T, o api.Outline) *log.Log {
	t.Helper()
	l, err := log.New(o)
	if err != nil || l == nil {
		t.Fatalf("New(%v) = %v, %v", o, l, err)
	}
	return l
}

func put(t *testing.T, l *log.Log, text string, e api.Errno) {
	t.Helper()
	if err := l.Put(edits(text)); plain.Told(err) != e {
		t.Errorf("Put(%q) = %v, want %v", text, err, e)
	}
}

func sync(t *testing.T, l *log.Log, e api.Errno) {
	t.Helper()
	if err := l.Sync(); plain.Told(err) != e {
		t.Errorf("Sync() = %v, want %v", err, e)
	}
}

func sameEntries(a, b []api.Entry) bool {
	return slices.EqualFunc(a, b, func(x, y api.Entry) bool { return slices.Equal(x.At, y.At) && x.N == y.N })
}

// stands asks for all that a log has.
func stands(t *testing.T, l *log.Log, written []api.Entry, bytes, safe int) {
	t.Helper()
	if got := l.Entries(); !sameEntries(got, written) {
		t.Errorf("Entries() = %v, want %v", got, written)
	}
	if got := l.Bytes(); got != bytes {
		t.Errorf("Bytes() = %d, want %d", got, bytes)
	}
	if got := l.Safe(); got != safe {
		t.Errorf("Safe() = %d, want %d", got, safe)
	}
}

// sizes of the records of edits, put one behind the other, where nothing goes wrong: up to each, from 0.
func sizes(t *testing.T, o api.Outline, texts ...string) []int {
	t.Helper()
	l := open(t, o)
	out := []int{0}
	for _, text := range texts {
		put(t, l, text, api.OK)
		out = append(out, l.Bytes())
	}
	return out
}

func TestOrdinary(t *testing.T) {
	o := shop()
	at := sizes(t, o, "1.1=200 1.2=100", "2.1=150 1.1!", "1.2=90")
	l := open(t, o)
	stands(t, l, nil, 0, 0)
	put(t, l, "1.1=200 1.2=100", api.OK)
	stands(t, l, entries("1.1=200 1.2=100"), at[1], 0)
	sync(t, l, api.OK)
	stands(t, l, entries("1.1=200 1.2=100"), at[1], at[1])
	put(t, l, "2.1=150 1.1!", api.OK)
	stands(t, l, entries("1.2=100 2.1=150"), at[2], at[1])
	put(t, l, "1.2=90", api.OK)
	stands(t, l, entries("1.2=90 2.1=150"), at[3], at[1])
	// All but the last byte of the last record is left: so that is gone.
	l.Crash(at[3] - at[1] - 1)
	stands(t, l, entries("1.2=100 2.1=150"), at[2], at[2])
	put(t, l, "1.2!", api.OK)
	stands(t, l, entries("2.1=150"), l.Bytes(), at[2])
	l.Crash(0)
	stands(t, l, entries("1.2=100 2.1=150"), at[2], at[2])
}

func TestNothingPut(t *testing.T) {
	for _, keep := range []int{math.MinInt, -1, 0, 1, math.MaxInt} {
		l := open(t, shop())
		l.Crash(keep)
		stands(t, l, nil, 0, 0)
		sync(t, l, api.OK)
		stands(t, l, nil, 0, 0)
		l.Crash(keep)
		stands(t, l, nil, 0, 0)
		put(t, l, "1.1=5", api.OK)
		stands(t, l, entries("1.1=5"), l.Bytes(), 0)
	}
}

// Every Put that is done comes to a record of at least two bytes, of no edits too, and nothing else to any.
func TestRecords(t *testing.T) {
	for _, o := range []api.Outline{sized(2), sized(2, 1), sized(2, 1, 1), sized(2, 1, 1, 1)} {
		l := open(t, o)
		at := func(n int) string { return fmt.Sprint(n) + strings.Repeat(".0", len(o.Dims)-1) }
		bytes := 0
		for _, text := range []string{"", at(0) + "=0", at(0) + "=0", "", at(1) + "=-1 " + at(0) + "!", "", at(1) + "!", strings.Repeat(at(1)+"=1 ", 60), ""} {
			put(t, l, text, api.OK)
			if l.Bytes() < bytes+2 {
				t.Errorf("a record of %q in %v has %d bytes", text, o, l.Bytes()-bytes)
			}
			bytes = l.Bytes()
			written := l.Entries()
			put(t, l, at(0)+".0=1", api.ErrShape)
			stands(t, l, written, bytes, l.Safe())
			sync(t, l, api.OK)
			stands(t, l, written, bytes, bytes)
		}
	}
}

// What is put, record by record, for the tests of what is left.
var story = []string{"1.1=200 1.2=100", "", "2.1=150 1.1!", "2.1=151 2.2=-20", "1.1=-1000000", "2.1! 2.2! 1.1! 1.2!", "2.2=1000000 2.2! 2.2=0", ""}

// after tells what the first records of the story come to: by hand.
func after(records int) []api.Entry {
	return entries([]string{
		"", "1.1=200 1.2=100", "1.1=200 1.2=100", "1.2=100 2.1=150", "1.2=100 2.1=151 2.2=-20",
		"1.1=-1000000 1.2=100 2.1=151 2.2=-20", "", "2.2=0", "2.2=0",
	}[records])
}

// told puts the story, with a Sync behind so many records, and some ahead of that.
func told(t *testing.T, o api.Outline, safe int) *log.Log {
	t.Helper()
	l := open(t, o)
	for i, text := range append([]string{""}, story...) {
		if i > 0 {
			put(t, l, text, api.OK)
		}
		if i == safe {
			sync(t, l, api.OK)
			sync(t, l, api.OK)
		}
		if i < safe && i%2 == 1 {
			sync(t, l, api.OK)
		}
	}
	return l
}

// Wherever it is cut off, the records that are whole are left, and what is safe is.
func TestEveryCut(t *testing.T) {
	o := shop()
	at := sizes(t, o, story...)
	last := len(story)
	for safe := range last + 1 {
		for keep := -3; keep <= at[last]+3; keep++ {
			l := told(t, o, safe)
			stands(t, l, after(last), at[last], at[safe])
			l.Crash(keep)
			left := last
			for at[left] > at[safe]+max(keep, 0) {
				left--
			}
			stands(t, l, after(left), at[left], at[left])
			// What is left is safe: it is lost by no other one.
			l.Crash(-keep)
			l.Crash(0)
			stands(t, l, after(left), at[left], at[left])
			// It goes on from there.
			for _, text := range story[left:] {
				put(t, l, text, api.OK)
			}
			stands(t, l, after(last), at[last], at[left])
			l.Crash(at[last])
			stands(t, l, after(last), at[last], at[last])
		}
	}
}

func TestGreatestKeep(t *testing.T) {
	o := shop()
	at := sizes(t, o, story...)
	last := len(story)
	for safe := range last + 1 {
		for _, keep := range []int{math.MaxInt, math.MaxInt - 1, math.MaxInt - at[last], 1 << 32, 1_000_000} {
			l := told(t, o, safe)
			l.Crash(keep)
			stands(t, l, after(last), at[last], at[last])
		}
		for _, keep := range []int{math.MinInt, math.MinInt + 1, -1 << 32, -1_000_000, -1, 0} {
			l := told(t, o, safe)
			l.Crash(keep)
			stands(t, l, after(safe), at[safe], at[safe])
		}
	}
}

// It stops at a Put: that one says so, half of its record is there, and no call but Crash does anything any more.
func TestFailAtPut(t *testing.T) {
	o := shop()
	at := sizes(t, o, story...)
	last := len(story)
	for safe := range last {
		for n := range last - safe {
			for keep := -1; keep <= at[last]; keep++ {
				l := open(t, o)
				for _, text := range story[:safe] {
					put(t, l, text, api.OK)
				}
				sync(t, l, api.OK)
				l.Fail(n)
				for _, text := range story[safe : safe+n] {
					put(t, l, text, api.OK)
				}
				stop := safe + n
				put(t, l, story[stop], api.ErrState)
				half := (at[stop+1] - at[stop]) / 2
				stands(t, l, after(stop), at[stop]+half, at[safe])
				put(t, l, story[stop], api.ErrState)
				put(t, l, "", api.ErrState)
				put(t, l, "9=1", api.ErrState)
				sync(t, l, api.ErrState)
				stands(t, l, after(stop), at[stop]+half, at[safe])
				l.Crash(keep)
				left := stop
				for at[left] > at[safe]+max(keep, 0) {
					left--
				}
				stands(t, l, after(left), at[left], at[left])
				for _, text := range story[left:] {
					put(t, l, text, api.OK)
				}
				sync(t, l, api.OK)
				stands(t, l, after(last), at[last], at[last])
			}
		}
	}
}

// It stops at a Sync, which then does nothing.
func TestFailAtSync(t *testing.T) {
	o := shop()
	at := sizes(t, o, story...)
	for n := range 5 {
		for keep := -1; keep <= at[5]+1; keep++ {
			l := open(t, o)
			l.Fail(2 + n)
			put(t, l, story[0], api.OK)
			sync(t, l, api.OK)
			for _, text := range story[1 : 1+n] {
				put(t, l, "9=1", api.ErrShape)
				put(t, l, text, api.OK)
			}
			stands(t, l, after(1+n), at[1+n], at[1])
			for range 2 {
				sync(t, l, api.ErrState)
				put(t, l, "2.2=1", api.ErrState)
				stands(t, l, after(1+n), at[1+n], at[1])
			}
			l.Crash(keep)
			left := 1 + n
			for at[left] > at[1]+max(keep, 0) {
				left--
			}
			stands(t, l, after(left), at[left], at[left])
			sync(t, l, api.OK)
			put(t, l, "", api.OK)
			stands(t, l, after(left), l.Bytes(), at[left])
		}
	}
}

// The very first step may be the one.
func TestFailAtOnce(t *testing.T) {
	l := open(t, shop())
	l.Fail(0)
	sync(t, l, api.ErrState)
	stands(t, l, nil, 0, 0)
	put(t, l, "1.1=5", api.ErrState)
	stands(t, l, nil, 0, 0)
	l.Crash(math.MaxInt)
	stands(t, l, nil, 0, 0)
	l.Fail(0)
	put(t, l, "", api.ErrState)
	if n := l.Bytes(); n < 1 {
		t.Errorf("half a record has %d bytes", n)
	}
	stands(t, l, nil, l.Bytes(), 0)
	l.Crash(math.MaxInt)
	stands(t, l, nil, 0, 0)
	put(t, l, "1.1=5", api.OK)
	stands(t, l, entries("1.1=5"), l.Bytes(), 0)
}

// Only what comes to a record, and a Sync, is a step: no Put that is refused, and nothing that is only asked for.
func TestWhatIsAStep(t *testing.T) {
	for _, n := range []int{0, 1, 2, 7} {
		l := open(t, shop())
		l.Fail(n)
		for i := range n + 1 {
			for range 3 {
				put(t, l, "1.1=7 1.2!", api.ErrNone)
				put(t, l, "0.0=1", api.ErrState)
				put(t, l, "1=1", api.ErrShape)
				if err := l.Put(make([]api.Edit, 61)); plain.Told(err) != api.ErrFull {
					t.Errorf("Put of 61 edits = %v", err)
				}
				l.Entries()
				l.Bytes()
				l.Safe()
			}
			want := api.OK
			if i == n {
				want = api.ErrState
			}
			if i%2 == 0 {
				put(t, l, "", want)
			} else {
				sync(t, l, want)
			}
		}
	}
}

// Below 0 it never stops; nor by what is too far away.
func TestNever(t *testing.T) {
	for _, n := range []int{-1, -2, -1_000_000, math.MinInt, math.MinInt + 1, math.MaxInt, 1_000_000} {
		l := open(t, shop())
		l.Fail(n)
		for i := range 300 {
			put(t, l, fmt.Sprint("1.1=", i), api.OK)
			sync(t, l, api.OK)
		}
		stands(t, l, entries("1.1=299"), l.Bytes(), l.Bytes())
	}
}

// A new one takes the place of the one ahead, and counts from where it was said.
func TestFailAnew(t *testing.T) {
	l := open(t, shop())
	l.Fail(0)
	l.Fail(2)
	put(t, l, "", api.OK)
	l.Fail(2)
	put(t, l, "", api.OK)
	sync(t, l, api.OK)
	l.Fail(-1)
	for range 5 {
		put(t, l, "1.1=1", api.OK)
	}
	l.Fail(math.MaxInt)
	l.Fail(1)
	sync(t, l, api.OK)
	put(t, l, "1.1=2", api.ErrState)
	// What has stopped goes on by Crash alone.
	for _, n := range []int{-1, 5, 0, math.MaxInt, math.MinInt} {
		l.Fail(n)
		put(t, l, "1.1=2", api.ErrState)
		sync(t, l, api.ErrState)
		stands(t, l, entries("1.1=1"), l.Bytes(), l.Safe())
	}
}

// Crash forgets what Fail said, whether it has stopped by then or not.
func TestForgotten(t *testing.T) {
	for _, n := range []int{0, 1, 2, 3} {
		for _, steps := range []int{0, 1, 2, 3, 4} {
			for _, again := range []int{-1, 0, 1} {
				l := open(t, shop())
				l.Fail(n)
				for i := range steps {
					if err := l.Sync(); (err == nil) != (i < n) {
						t.Errorf("step %d of %d: %v", i, n, err)
					}
				}
				l.Fail(again)
				l.Crash(0)
				for range 5 {
					put(t, l, "1.1=4", api.OK)
					sync(t, l, api.OK)
				}
				l.Fail(1)
				sync(t, l, api.OK)
				put(t, l, "1.1=5", api.ErrState)
				stands(t, l, entries("1.1=4"), l.Bytes(), l.Safe())
			}
		}
	}
}

// wrongOutlines are what chapter 10 finds wrong.
func wrongOutlines() []api.Outline {
	great := strings.Repeat(" a:-1:1:", 13)
	return []api.Outline{
		{}, {Dims: []api.Dim{}}, {Dims: make([]api.Dim, 1)}, {Dims: make([]api.Dim, 5)}, {Dims: make([]api.Dim, 100_000)}, sized(12, 12, 12, 12),
		cube("x 0"), cube("X 0 a:-1:1:"), cube("x 10 a:-1:1:"), cube("x -1 a:-1:1:"), cube("x 0" + great), cube("x 0 a:-1:1:", "x 0 a:-1:1:"),
		cube("x 0 A:-1:1:"), cube("x 0 a:-1:1: a:-1:1:"), cube("x 0 a:0:1:"), cube("x 0 a:-2:1:"), cube("x 0 a:-1:2:"), cube("x 0 a:-1:1:1 b:0:1:"), cube("x 0 a:-1:1:" + strings.Repeat("1", 101)),
		cube("x 0 a:-1:1:a+"), cube("x 0 a:-1:1:b"), cube("x 0 a:-1:1:1000001"), cube("x 0 a:-1:1:1" + strings.Repeat("+1", 15)),
		cube("x 0 a:-1:1:a"), cube("x 0 a:-1:1:b b:-1:1:a"), cube("x 0 a:-1:1: b:0:1:a"), cube("x 0 a:-1:1: b:-1:1:c c:-1:1:b"),
		cube("x 0 a:-1:1: b:-1:1:", "y 0 a:-1:1: b:-1:1:x"), cube("x 0 a:-1:1:a", "y 0 a:-1:1:+"), cube("x 0 a:-1:1:a", "y 0 A:-1:1:"),
	}
}

func TestWrongOutlines(t *testing.T) {
	count := make([]int, 9)
	for _, o := range wrongOutlines() {
		_, _, err := rules.All(o)
		e := plain.Told(err)
		count[e]++
		if l, err := log.New(o); l != nil || plain.Told(err) != e {
			t.Errorf("New(%v) = %v, %v, want %v", o, l, err, e)
		}
	}
	for _, e := range []api.Errno{api.ErrRange, api.ErrSyntax, api.ErrFull, api.ErrNone, api.ErrState, api.ErrClash, api.ErrCycle} {
		if count[e] == 0 {
			t.Errorf("%v was not told", e)
		}
	}
	if count[api.OK] > 0 {
		t.Error("an outline is right")
	}
}

// refused edits tell their error, and all stands as it did, whatever was right ahead of what is wrong.
func refused(t *testing.T, l *log.Log, some []api.Edit, e api.Errno) {
	t.Helper()
	written, bytes, safe := l.Entries(), l.Bytes(), l.Safe()
	if err := l.Put(some); plain.Told(err) != e {
		t.Errorf("Put(%v) = %v, want %v", some, err, e)
	}
	stands(t, l, written, bytes, safe)
}

func TestWrongEdits(t *testing.T) {
	o := shop()
	empty, full := open(t, o), open(t, o)
	put(t, full, "1.1=200 1.2=100", api.OK)
	sync(t, full, api.OK)
	put(t, full, "2.1=150", api.OK)
	written, bytes, safe := full.Entries(), full.Bytes(), full.Safe()
	for text, e := range map[string]api.Errno{
		"1=1": api.ErrShape, "1!": api.ErrShape, "1.1.1=1": api.ErrShape, "1.1.1!": api.ErrShape,
		"4.1=1": api.ErrRange, "-1.1=1": api.ErrRange, "1.3=1": api.ErrRange, "1.-1=1": api.ErrRange, "4.1!": api.ErrRange, "256.1=1": api.ErrRange, "1.257=1": api.ErrRange,
		"0.0=1": api.ErrState, "0.1=1": api.ErrState, "1.0=1": api.ErrState, "3.1=1": api.ErrState, "0.1=1000001": api.ErrState,
		"0.0!": api.ErrNone, "3.1!": api.ErrNone, "2.2!": api.ErrNone,
		"1.1=1000001": api.ErrRange, "1.1=-1000001": api.ErrRange, "1.1=16777217": api.ErrRange,
		"1.1=7 1.1! 1.1!": api.ErrNone, "1.1=7 2.2=8 1=1": api.ErrShape, "1.1=7 0.1=1 1=1": api.ErrState, "1.1=7 1=1 0.1=1": api.ErrShape,
	} {
		for _, l := range []*log.Log{empty, full} {
			refused(t, l, edits(text), e)
		}
	}
	refused(t, empty, edits("1.1!"), api.ErrNone)
	for _, l := range []*log.Log{empty, full} {
		refused(t, l, []api.Edit{{}}, api.ErrShape)
		refused(t, l, []api.Edit{{At: make(api.Place, 100_000)}}, api.ErrShape)
		refused(t, l, []api.Edit{{At: api.Place{math.MinInt, 1}}}, api.ErrRange)
		refused(t, l, []api.Edit{{At: api.Place{1, math.MaxInt}, Clear: true}}, api.ErrRange)
		refused(t, l, []api.Edit{{At: api.Place{1, 1}, N: math.MinInt}}, api.ErrRange)
		refused(t, l, make([]api.Edit, 61), api.ErrFull)
		refused(t, l, make([]api.Edit, 100_000), api.ErrFull)
		refused(t, l, make([]api.Edit, 60), api.ErrShape)
		refused(t, l, edits(strings.Repeat("1.1=1 ", 60)+"0.0=1"), api.ErrFull)
	}
	stands(t, empty, nil, 0, 0)
	stands(t, full, written, bytes, safe)
	empty.Crash(math.MaxInt)
	full.Crash(math.MaxInt)
	stands(t, empty, nil, 0, 0)
	stands(t, full, written, bytes, bytes)
}

// Of several errors: that it has stopped, then chapter 5's, then that it stops.
func TestOrderOfErrors(t *testing.T) {
	wrong := map[string]api.Errno{"9=1": api.ErrShape, "9.9=1": api.ErrRange, "1.1!": api.ErrNone, strings.Repeat("1.1=1 ", 61): api.ErrFull}
	l := open(t, shop())
	l.Fail(0)
	for text, e := range wrong {
		refused(t, l, edits(text), e)
	}
	put(t, l, "1.1=1", api.ErrState)
	for text := range wrong {
		refused(t, l, edits(text), api.ErrState)
	}
	l.Crash(0)
	for text, e := range wrong {
		refused(t, l, edits(text), e)
	}
}

// What is read from the bytes is what was put, at every member, with every number.
func TestEveryEdit(t *testing.T) {
	numbers := []int{0, 1, -1, 2, 127, 128, -128, -129, 255, 256, -256, 32767, 32768, 65535, 65536, -65536, 999_999, 1_000_000, -999_999, -1_000_000}
	for _, o := range []api.Outline{sized(12), sized(1, 12), sized(12, 1), sized(3, 12, 2), sized(2, 2, 2, 12), sized(12, 2, 1, 3)} {
		l := open(t, o)
		var want []api.Entry
		for i, p := range places(o) {
			for k := range 3 {
				n := numbers[(i*3+k)%len(numbers)]
				if err := l.Put([]api.Edit{{At: p, N: n}}); err != nil {
					t.Fatal(err)
				}
				bytes := l.Bytes()
				l.Crash(math.MaxInt)
				stands(t, l, append(slices.Clone(want), api.Entry{At: p, N: n}), bytes, bytes)
				if k == 1 {
					// What a Clear has as its number does not matter.
					if err := l.Put([]api.Edit{{At: p, N: []int{0, n, math.MaxInt, math.MinInt}[i%4], Clear: true}}); err != nil {
						t.Fatal(err)
					}
					bytes := l.Bytes()
					l.Crash(math.MaxInt)
					stands(t, l, want, bytes, bytes)
				}
			}
			want = append(want, api.Entry{At: p, N: numbers[(i*3+2)%len(numbers)]})
		}
	}
}

// As great a cube, and as many edits at a time, as may be.
func TestGreatest(t *testing.T) {
	o := sized(12, 10, 5, 5)
	l := open(t, o)
	var want []api.Entry
	var some []api.Edit
	at := []int{0}
	all := places(o)
	for n, p := range all {
		want = append(want, api.Entry{At: p, N: n*661 - 1_000_000})
		some = append(some, api.Edit{At: p, N: n*661 - 1_000_000})
		if len(some) == api.MaxEdits {
			if err := l.Put(some); err != nil {
				t.Fatal(err)
			}
			at = append(at, l.Bytes())
			some = nil
		}
	}
	stands(t, l, want, at[50], 0)
	l.Crash(at[50])
	stands(t, l, want, at[50], at[50])
	for _, p := range all[:60] {
		some = append(some, api.Edit{At: p, Clear: true})
	}
	l.Fail(0)
	if err := l.Put(some); plain.Told(err) != api.ErrState {
		t.Errorf("Put = %v", err)
	}
	stands(t, l, want, l.Bytes(), at[50])
	l.Crash(math.MaxInt)
	stands(t, l, want, at[50], at[50])
	if err := l.Put(some); err != nil {
		t.Fatal(err)
	}
	bytes := l.Bytes()
	l.Crash(bytes - at[50])
	stands(t, l, want[60:], bytes, bytes)
}

// dice that always fall alike.
type dice uint64

func (d *dice) roll(n int) int {
	*d = *d*6364136223846793005 + 1442695040888963407
	return int(uint64(*d) >> 33 % uint64(n))
}

// outline of some dims, of which members are parts of others, or have formulas.
func (d *dice) outline() api.Outline {
	var o api.Outline
	dims := 1 + d.roll(4)
	for i := range dims {
		dim := api.Dim{Name: string(rune('w' + i)), Solve: d.roll(10)}
		for k := range 1 + d.roll([]int{12, 8, 5, 4}[dims-1]) {
			m := api.Member{Name: string(rune('a' + k)), Parent: -1, Sign: d.roll(3) - 1}
			if k > 0 && d.roll(3) == 0 {
				m.Formula = "a*2"
			} else if k > 0 && d.roll(2) == 0 {
				m.Parent = d.roll(k)
			}
			if m.Parent > 0 && dim.Members[m.Parent].Formula != "" {
				m.Parent = -1
			}
			dim.Members = append(dim.Members, m)
		}
		if _, err := rules.Check(dim); err != nil {
			// A formula is of what it is a part of: so there is none.
			for k := range dim.Members {
				dim.Members[k].Formula = ""
			}
		}
		o.Dims = append(o.Dims, dim)
	}
	return o
}

// edits of places of leafs, most of the time; some clear, some are wrong.
func (d *dice) edits(all, leafs []api.Place) []api.Edit {
	var out []api.Edit
	for range d.roll(5) {
		at := leafs
		if len(leafs) == 0 || d.roll(30) == 0 {
			at = all
		}
		n := []int{0, 1, -1, 7, -30, 200, api.MaxInput, -api.MaxInput}[d.roll(8)]
		if d.roll(40) == 0 {
			n = api.MaxInput + 1
		}
		out = append(out, api.Edit{At: at[d.roll(len(at))], N: n, Clear: d.roll(5) == 0})
	}
	return out
}

// diary is what a log is to have: what was put, and where each record ends.
type diary struct {
	outline api.Outline
	puts    [][]api.Edit
	ends    []int
	half    int
	safe    int
	left    int
	stopped bool
}

// end of the last record.
func (d *diary) end() int {
	if len(d.ends) == 0 {
		return 0
	}
	return d.ends[len(d.ends)-1]
}

// entries by chapter 5's All, from the first record on.
func (d *diary) entries(t *testing.T) []api.Entry {
	t.Helper()
	var l []api.Entry
	for _, some := range d.puts {
		next, _, err := input.All(d.outline, l, some)
		if err != nil {
			t.Fatal(err)
		}
		l = next
	}
	return l
}

// stops tells whether this step is the one.
func (d *diary) stops() bool {
	d.stopped = d.left == 0
	d.left = max(d.left, 0) - 1
	return d.stopped
}

// size of the record of edits: of another log, that has put the same ones ahead.
func (d *diary) size(t *testing.T, some []api.Edit) int {
	t.Helper()
	l := open(t, d.outline)
	for _, ahead := range append(slices.Clone(d.puts), some) {
		if err := l.Put(ahead); err != nil {
			t.Fatal(err)
		}
	}
	if d.end()+2 > l.Bytes() {
		t.Fatalf("a record of %d bytes", l.Bytes()-d.end())
	}
	return l.Bytes() - d.end()
}

func (d *diary) put(t *testing.T, some []api.Edit) api.Errno {
	t.Helper()
	if d.stopped {
		return api.ErrState
	}
	if _, _, err := input.All(d.outline, d.entries(t), some); err != nil {
		return plain.Told(err)
	}
	n := d.size(t, some)
	if d.stops() {
		d.half = n / 2
		return api.ErrState
	}
	d.ends = append(d.ends, d.end()+n)
	d.puts = append(d.puts, some)
	return api.OK
}

func (d *diary) sync() api.Errno {
	if d.stopped || d.stops() {
		return api.ErrState
	}
	d.safe = d.end()
	return api.OK
}

func (d *diary) crash(keep int) {
	for len(d.ends) > 0 && d.end()-d.safe > max(keep, 0) {
		d.ends = d.ends[:len(d.ends)-1]
		d.puts = d.puts[:len(d.puts)-1]
	}
	d.half, d.safe, d.left, d.stopped = 0, d.end(), -1, false
}

// Many cubes, and many calls of each log, in any order: what it has is what its diary tells.
func TestManyCubes(t *testing.T) {
	d := dice(19)
	count := map[string]int{}
	for range 300 {
		o := d.outline()
		all := places(o)
		var leafs []api.Place
		for _, p := range all {
			if leaf, _ := place.Leaf(o, p); leaf {
				leafs = append(leafs, p)
			}
		}
		l, own := open(t, o), &diary{outline: o, left: -1}
		for range 30 {
			switch d.roll(8) {
			default:
				some := d.edits(all, leafs)
				want := own.put(t, some)
				if err := l.Put(some); plain.Told(err) != want {
					t.Fatalf("Put(%v) = %v, want %v", some, err, want)
				}
				count["put "+want.Error()]++
			case 0, 1:
				want := own.sync()
				if err := l.Sync(); plain.Told(err) != want {
					t.Fatalf("Sync() = %v, want %v", err, want)
				}
				count["sync "+want.Error()]++
			case 2:
				n := d.roll(12) - 2
				l.Fail(n)
				own.left = max(n, -1)
			case 3:
				keep := d.roll(own.end()-own.safe+own.half+6) - 3
				lost := len(own.ends)
				own.crash(keep)
				l.Crash(keep)
				if lost == len(own.ends) {
					count["nothing lost"]++
				} else if len(own.ends) > 0 {
					count["some lost"]++
				}
			}
			stands(t, l, own.entries(t), own.end()+own.half, own.safe)
			if t.Failed() {
				t.FailNow()
			}
		}
		if own.half > 0 {
			count["half"]++
		}
		if len(leafs) < len(all) {
			count["parts"]++
		}
	}
	for _, what := range []string{"put OK", "put ErrState", "put ErrNone", "put ErrRange", "sync OK", "sync ErrState", "nothing lost", "some lost", "half", "parts"} {
		if count[what] < 20 {
			t.Errorf("there were few of %q: %v", what, count)
		}
	}
}

// P2: what is handed in stays as it was, what lies behind its length is not read, and a log keeps none of it.
func TestNothingWrittenOrKept(t *testing.T) {
	o := shop()
	o.Dims = append(make([]api.Dim, 0, 4), o.Dims...)
	o.Dims[:3][2] = api.Dim{Name: "X", Solve: 99}
	o.Dims[1].Members = append(make([]api.Member, 0, 5), o.Dims[1].Members...)
	o.Dims[1].Members[:4][3] = api.Member{Name: "X", Parent: 0, Sign: 1, Formula: "+"}
	text := "1.1=200 1.2=100 2.1=150 1.1!"
	some := append(make([]api.Edit, 0, 9), edits(text)...)
	some[:5][4] = api.Edit{At: api.Place{9}, N: -1}
	some[0].At = append(make(api.Place, 0, 4), some[0].At...)
	some[0].At[:3][2] = 9
	l := open(t, o)
	for range 2 {
		if err := l.Put(some); err != nil {
			t.Fatal(err)
		}
	}
	if !reflect.DeepEqual(o, shop()) || !reflect.DeepEqual(some, edits(text)) {
		t.Errorf("what was handed in was written into: %v, %v", o, some)
	}
	if o.Dims[:3][2].Solve != 99 || o.Dims[1].Members[:4][3].Formula != "+" || some[:5][4].N != -1 || some[0].At[:3][2] != 9 {
		t.Error("what lies behind was written into")
	}
	// What becomes of it later does not matter.
	for i := range some {
		some[i].N, some[i].Clear = -7, true
		for k := range some[i].At {
			some[i].At[k] = -7
		}
	}
	for i := range o.Dims {
		for k := range o.Dims[i].Members {
			o.Dims[i].Members[k] = api.Member{Name: "X", Parent: 7, Sign: 7, Formula: "+"}
		}
		o.Dims[i] = api.Dim{}
	}
	bytes := l.Bytes()
	stands(t, l, entries("1.2=100 2.1=150"), bytes, 0)
	l.Crash(bytes)
	stands(t, l, entries("1.2=100 2.1=150"), bytes, bytes)
	put(t, l, "0.0=1", api.ErrState)
	put(t, l, "1.1=170", api.OK)
	stands(t, l, entries("1.1=170 1.2=100 2.1=150"), l.Bytes(), bytes)
}

// spoil writes over all memory that an answer has, entry by entry, and tells whether others in it are changed by that.
func spoil(l []api.Entry) bool {
	shared := false
	for i := range l {
		rest := input.Fresh(l[i+1:])
		at := l[i].At[:cap(l[i].At)]
		for k := range at {
			at[k] = -7
		}
		shared = shared || !sameEntries(l[i+1:], rest)
	}
	l = l[:cap(l)]
	for i := range l {
		l[i] = api.Entry{N: -7}
	}
	return shared
}

// P2: what comes out is the caller's, before a crash and behind it.
func TestFreshMemory(t *testing.T) {
	l := open(t, shop())
	spoil(l.Entries())
	stands(t, l, nil, 0, 0)
	put(t, l, "2.1=150 1.2=100 1.1=200", api.OK)
	bytes := l.Bytes()
	for i := range 4 {
		safe := min(i, 1) * bytes
		one, two := l.Entries(), l.Entries()
		if spoil(one) {
			t.Error("places of one answer share memory")
		}
		if want := entries("1.1=200 1.2=100 2.1=150"); !sameEntries(two, want) {
			t.Errorf("two answers share memory: %v, want %v", two, want)
		}
		stands(t, l, entries("1.1=200 1.2=100 2.1=150"), bytes, safe)
		l.Crash(bytes)
		stands(t, l, entries("1.1=200 1.2=100 2.1=150"), bytes, bytes)
	}
	put(t, l, "1.2=5", api.OK)
	stands(t, l, entries("1.1=200 1.2=5 2.1=150"), l.Bytes(), bytes)
}

// Two logs of one outline are two.
func TestApart(t *testing.T) {
	o := shop()
	one, two := open(t, o), open(t, o)
	put(t, one, "1.1=200", api.OK)
	sync(t, one, api.OK)
	one.Fail(0)
	stands(t, two, nil, 0, 0)
	put(t, two, "2.2=5", api.OK)
	put(t, one, "1.2=7", api.ErrState)
	sync(t, two, api.OK)
	stands(t, one, entries("1.1=200"), one.Bytes(), one.Safe())
	stands(t, two, entries("2.2=5"), two.Bytes(), two.Bytes())
	two.Crash(0)
	sync(t, one, api.ErrState)
	one.Crash(0)
	stands(t, one, entries("1.1=200"), one.Bytes(), one.Bytes())
}
