package outline_test

import (
	"fmt"
	"math"
	"reflect"
	"strings"
	"testing"
	"unsafe"

	"tallyhall/api"
	"tallyhall/outline"
	"tallyhall/plain"
)

// told is what a call that names a dim and a member answers.
type told struct {
	dim, member int
	err         api.Errno
}

// letters names members: a, b, c, and so on.
func letters(n int) []api.Member {
	l := make([]api.Member, n)
	for i := range l {
		l[i] = api.Member{Name: string(rune('a' + i)), Parent: -1, Sign: 1}
	}
	return l
}

func dim(name string, members int) api.Dim {
	return api.Dim{Name: name, Members: letters(members)}
}

// sized is an outline of dims named p, q, r, and so on, with so many members each.
func sized(counts ...int) api.Outline {
	var o api.Outline
	for i, n := range counts {
		o.Dims = append(o.Dims, dim(string(rune('p'+i)), n))
	}
	return o
}

// with is a dim of n members of which the one at place i was changed.
func with(n, i int, change func(m *api.Member)) api.Dim {
	d := dim("x", n)
	change(&d.Members[i])
	return d
}

// notNames are texts that name nothing.
var notNames = []string{
	"", "A", "aB", "a1", "1", "a b", " ", " a", "a ", "a_", "-", "a-b", "`", "{", "a`", "a{", "\x00", "a\x00", "\xff",
	"é", "aé", "ａ", "abcdefghi", "abcdefghA", strings.Repeat("a", 1000),
}

func TestName(t *testing.T) {
	for _, s := range []string{"a", "z", "az", "abcdefgh", "zzzzzzzz", "total", "qrstuvwx"} {
		if err := outline.Name(s); err != nil {
			t.Errorf("Name(%q) = %v, want nil", s, err)
		}
	}
	for _, s := range notNames {
		if err := outline.Name(s); plain.Told(err) != api.ErrSyntax {
			t.Errorf("Name(%q) = %v, want ErrSyntax", s, err)
		}
	}
}

// Every byte, alone and within a name.
func TestNameByBytes(t *testing.T) {
	for c := 0; c < 256; c++ {
		want := api.ErrSyntax
		if strings.IndexByte("abcdefghijklmnopqrstuvwxyz", byte(c)) >= 0 {
			want = api.OK
		}
		for _, s := range []string{string([]byte{byte(c)}), string([]byte{byte(c), 'a'}), string([]byte{'a', byte(c)}), string([]byte{'a', byte(c), 'z'})} {
			if got := plain.Told(outline.Name(s)); got != want {
				t.Errorf("Name(%q) = %v, want %v", s, got, want)
			}
		}
	}
}

func checkOne(t *testing.T, what string, d api.Dim, want told) {
	t.Helper()
	i, err := outline.Check(d)
	if i != want.member || plain.Told(err) != want.err {
		t.Errorf("%s: Check = %d, %v, want %d, %v", what, i, err, want.member, want.err)
	}
}

// What is right is told with -1.
func TestCheckRight(t *testing.T) {
	for n := 1; n <= api.MaxMembers; n++ {
		checkOne(t, fmt.Sprint(n, " members"), dim("x", n), told{member: -1})
	}
	for s := 0; s <= api.MaxSolve; s++ {
		d := dim("x", 1)
		d.Solve = s
		checkOne(t, fmt.Sprint("Solve ", s), d, told{member: -1})
	}
	for _, sign := range []int{-1, 0, 1} {
		checkOne(t, fmt.Sprint("Sign ", sign), with(3, 1, func(m *api.Member) { m.Sign = sign }), told{member: -1})
	}
	for p := -1; p < 4; p++ {
		checkOne(t, fmt.Sprint("Parent ", p), with(5, 4, func(m *api.Member) { m.Parent = p }), told{member: -1})
	}
	for _, f := range []string{"a", "no formula at all", "\x00", strings.Repeat("1", 100)} {
		checkOne(t, fmt.Sprintf("Formula %q", f), with(3, 1, func(m *api.Member) { m.Formula = f }), told{member: -1})
	}
	checkOne(t, "a member named as its dim", api.Dim{Name: "a", Members: letters(2)}, told{member: -1})
	checkOne(t, "a part with a formula", with(2, 1, func(m *api.Member) { m.Parent, m.Formula = 0, "a" }), told{member: -1})
}

func TestCheckDimItself(t *testing.T) {
	for _, s := range notNames {
		checkOne(t, fmt.Sprintf("Dim %q", s), dim(s, 2), told{member: -1, err: api.ErrSyntax})
	}
	for _, s := range []int{-1, api.MaxSolve + 1, math.MinInt, math.MaxInt} {
		d := dim("x", 2)
		d.Solve = s
		checkOne(t, fmt.Sprint("Solve ", s), d, told{member: -1, err: api.ErrRange})
	}
	for _, n := range []int{api.MaxMembers + 1, api.MaxMembers + 2, 1000} {
		checkOne(t, fmt.Sprint(n, " members"), dim("x", n), told{member: -1, err: api.ErrFull})
	}
	checkOne(t, "no member", api.Dim{Name: "x"}, told{member: -1, err: api.ErrNone})
	checkOne(t, "an empty list", api.Dim{Name: "x", Members: []api.Member{}}, told{member: -1, err: api.ErrNone})
	checkOne(t, "nothing at all", api.Dim{}, told{member: -1, err: api.ErrSyntax})
}

func TestCheckMember(t *testing.T) {
	for i := 0; i < 4; i++ {
		at := func(what string, err api.Errno, change func(m *api.Member)) {
			t.Helper()
			checkOne(t, fmt.Sprint(what, " at ", i), with(4, i, change), told{member: i, err: err})
		}
		for _, s := range notNames {
			at(fmt.Sprintf("Name %q", s), api.ErrSyntax, func(m *api.Member) { m.Name = s })
		}
		for _, p := range []int{-2, i, i + 1, 4, math.MinInt, math.MaxInt} {
			at(fmt.Sprint("Parent ", p), api.ErrRange, func(m *api.Member) { m.Parent = p })
		}
		for _, s := range []int{-2, 2, math.MinInt, math.MaxInt} {
			at(fmt.Sprint("Sign ", s), api.ErrRange, func(m *api.Member) { m.Sign = s })
		}
		for _, n := range []int{101, 102, 5000} {
			at(fmt.Sprint("Formula of ", n), api.ErrFull, func(m *api.Member) { m.Formula = strings.Repeat("1", n) })
		}
	}
	// Bytes are counted, not runes.
	checkOne(t, "51 runes of 2 bytes", with(2, 1, func(m *api.Member) { m.Formula = strings.Repeat("é", 51) }), told{member: 1, err: api.ErrFull})
	checkOne(t, "50 runes of 2 bytes", with(2, 1, func(m *api.Member) { m.Formula = strings.Repeat("é", 50) }), told{member: -1})
}

// A clash is one of the member that stands behind, whichever lies between.
func TestCheckClash(t *testing.T) {
	for i := 0; i < 5; i++ {
		for k := i + 1; k < 5; k++ {
			d := with(5, k, func(m *api.Member) { m.Name = string(rune('a' + i)) })
			checkOne(t, fmt.Sprint(i, " as ", k), d, told{member: k, err: api.ErrClash})
		}
	}
}

// A Parent with a Formula, at any place ahead; not one that stands higher than the Parent.
func TestCheckParentWithFormula(t *testing.T) {
	for p := 0; p < 4; p++ {
		d := with(5, 4, func(m *api.Member) { m.Parent = p })
		d.Members[p].Formula = "b"
		checkOne(t, fmt.Sprint("Parent ", p), d, told{member: 4, err: api.ErrState})
	}
	d := dim("x", 3)
	d.Members[0].Formula = "b"
	checkOne(t, "a formula of one that is no Parent", d, told{member: -1})
}

// flaw is a fault of a dim itself, or of a member; lists of them are in the order in which they are told.
type flaw struct {
	err api.Errno
	in  func(d *api.Dim)
}

func dimFlaws() []flaw {
	return []flaw{
		{api.ErrSyntax, func(d *api.Dim) { d.Name = "X" }},
		{api.ErrRange, func(d *api.Dim) { d.Solve = 10 }},
		{api.ErrFull, func(d *api.Dim) { d.Members = letters(13) }},
		{api.ErrSyntax, func(d *api.Dim) { d.Members[0].Name = "" }},
	}
}

// memberFlaws are of the member at place 2; the one at place 0 has a formula.
func memberFlaws() []flaw {
	return []flaw{
		{api.ErrSyntax, func(d *api.Dim) { d.Members[2].Name = "C" }},
		{api.ErrClash, func(d *api.Dim) { d.Members[2].Name = "b" }},
		{api.ErrRange, func(d *api.Dim) { d.Members[2].Parent = 2 }},
		{api.ErrState, func(d *api.Dim) { d.Members[2].Parent = 0 }},
		{api.ErrRange, func(d *api.Dim) { d.Members[2].Sign = 2 }},
		{api.ErrFull, func(d *api.Dim) { d.Members[2].Formula = strings.Repeat("a", 101) }},
	}
}

// Of any set of faults the first one is told. Faults are laid in from the last on, so that of two that exclude each other the one that is named first stays.
func TestCheckOrder(t *testing.T) {
	for set := 1; set < 1<<len(memberFlaws()); set++ {
		d := with(4, 0, func(m *api.Member) { m.Formula = "b" })
		d.Members[3].Name = "WRONG"
		want := lay(&d, memberFlaws(), set)
		checkOne(t, fmt.Sprintf("member faults %b", set), d, told{member: 2, err: want})
	}
	for set := 1; set < 1<<len(dimFlaws()); set++ {
		d := dim("x", 2)
		want := told{member: -1, err: lay(&d, dimFlaws(), set)}
		if set == 1<<3 {
			want.member = 0
		}
		checkOne(t, fmt.Sprintf("dim faults %b", set), d, want)
	}
	none := api.Dim{Name: "x", Solve: -1}
	checkOne(t, "Solve ahead of no member", none, told{member: -1, err: api.ErrRange})
	none.Name = "x1"
	checkOne(t, "Name ahead of Solve", none, told{member: -1, err: api.ErrSyntax})
}

func lay(d *api.Dim, l []flaw, set int) (first api.Errno) {
	for i := len(l) - 1; i >= 0; i-- {
		if set>>i&1 == 1 {
			l[i].in(d)
			first = l[i].err
		}
	}
	return first
}

// The first member with a fault is told, not the first kind of fault.
func TestCheckFirstMember(t *testing.T) {
	d := dim("x", 3)
	d.Members[1].Formula = strings.Repeat("a", 101)
	d.Members[2].Name = ""
	checkOne(t, "a long Formula ahead of a Name", d, told{member: 1, err: api.ErrFull})
}

func allOne(t *testing.T, what string, o api.Outline, want told) {
	t.Helper()
	i, k, err := outline.All(o)
	if got := (told{i, k, plain.Told(err)}); got != want {
		t.Errorf("%s: All = %v, want %v", what, got, want)
	}
}

func TestAllRight(t *testing.T) {
	for _, l := range [][]int{{1}, {12}, {3, 2}, {12, 12}, {12, 12, 12}, {1, 1, 1, 1}, {12, 12, 10, 2}, {5, 5, 10, 12}, {10, 12, 5, 5}, {12, 12, 12, 1}} {
		allOne(t, fmt.Sprint(l), sized(l...), told{dim: -1, member: -1})
	}
}

func TestAllFull(t *testing.T) {
	for _, l := range [][]int{{12, 12, 12, 2}, {12, 12, 12, 12}, {7, 7, 7, 9}, {2, 12, 12, 12}} {
		allOne(t, fmt.Sprint(l), sized(l...), told{dim: -1, member: -1, err: api.ErrFull})
	}
	allOne(t, "a dim that is too great", sized(1, 1, 1, 13), told{dim: 3, member: -1, err: api.ErrFull})
	allOne(t, "five dims", sized(1, 1, 1, 1, 1), told{dim: -1, member: -1, err: api.ErrFull})
	allOne(t, "five dims, all wrong", api.Outline{Dims: make([]api.Dim, 5)}, told{dim: -1, member: -1, err: api.ErrFull})
	allOne(t, "many dims", api.Outline{Dims: make([]api.Dim, 500)}, told{dim: -1, member: -1, err: api.ErrFull})
}

// Every product of four counts, held against the bound.
func TestAllProducts(t *testing.T) {
	for a := 1; a <= 12; a++ {
		for b := 1; b <= 12; b++ {
			for c := 1; c <= 12; c++ {
				for e := 1; e <= 12; e++ {
					want := told{dim: -1, member: -1}
					if a*b*c*e > 3000 {
						want.err = api.ErrFull
					}
					allOne(t, fmt.Sprint(a, b, c, e), sized(a, b, c, e), want)
				}
			}
		}
	}
}

func TestAllNone(t *testing.T) {
	allOne(t, "nil", api.Outline{}, told{dim: -1, member: -1, err: api.ErrNone})
	allOne(t, "an empty list", api.Outline{Dims: []api.Dim{}}, told{dim: -1, member: -1, err: api.ErrNone})
}

// What is wrong with a dim is told as Check tells it, with the dim's number.
func TestAllByDim(t *testing.T) {
	bad := []api.Dim{
		{}, dim("x1", 2), {Name: "x", Solve: 10, Members: letters(1)}, {Name: "x"}, dim("x", 13),
		with(4, 0, func(m *api.Member) { m.Parent = 0 }),
		with(4, 3, func(m *api.Member) { m.Sign = 3 }),
		with(4, 2, func(m *api.Member) { m.Name = "a" }),
		with(4, 1, func(m *api.Member) { m.Formula = strings.Repeat("a", 101) }),
	}
	for n := 1; n <= api.MaxDims; n++ {
		for i := 0; i < n; i++ {
			for b, d := range bad {
				o := sized(make([]int, n)...)
				for k := range o.Dims {
					o.Dims[k].Members = letters(2)
				}
				// One behind is wrong too, and is not told.
				if i+1 < n {
					o.Dims[n-1] = api.Dim{}
				}
				o.Dims[i] = d
				k, err := outline.Check(d)
				allOne(t, fmt.Sprint("bad ", b, " at ", i, " of ", n), o, told{i, k, plain.Told(err)})
			}
		}
	}
}

func TestAllClash(t *testing.T) {
	for i := 0; i < 4; i++ {
		for k := i + 1; k < 4; k++ {
			o := sized(2, 2, 2, 2)
			o.Dims[k].Name = o.Dims[i].Name
			allOne(t, fmt.Sprint(i, " as ", k), o, told{dim: k, member: -1, err: api.ErrClash})
			o.Dims[k].Members[1].Sign = 2
			allOne(t, fmt.Sprint(i, " as ", k, ", and a member"), o, told{dim: k, member: 1, err: api.ErrRange})
		}
	}
	o := sized(2, 2, 2)
	o.Dims[1].Name = "p"
	o.Dims[2] = api.Dim{}
	allOne(t, "a clash ahead of a wrong dim", o, told{dim: 1, member: -1, err: api.ErrClash})
	o = sized(12, 12, 12, 12)
	o.Dims[3].Name = "p"
	allOne(t, "a clash ahead of too many cells", o, told{dim: 3, member: -1, err: api.ErrClash})
}

func findOne(t *testing.T, d api.Dim, name string, at int, want api.Errno) {
	t.Helper()
	i, err := outline.Find(d, name)
	if i != at || plain.Told(err) != want {
		t.Errorf("Find(%v, %q) = %d, %v, want %d, %v", d, name, i, err, at, want)
	}
}

func TestFind(t *testing.T) {
	for n := 1; n <= api.MaxMembers; n++ {
		d := dim("x", n)
		for i, m := range d.Members {
			findOne(t, d, m.Name, i, api.OK)
		}
		findOne(t, d, string(rune('a'+n)), 0, api.ErrNone)
		findOne(t, d, "x", 0, api.ErrNone)
	}
	long := with(3, 1, func(m *api.Member) { m.Name = "ab" })
	findOne(t, long, "a", 0, api.OK)
	findOne(t, long, "ab", 1, api.OK)
	findOne(t, long, "abc", 0, api.ErrNone)
	// A name that could be no member's is of none.
	for _, s := range notNames {
		findOne(t, dim("x", 12), s, 0, api.ErrNone)
	}
}

// Check comes first, even for a name that stands there.
func TestFindWrongDim(t *testing.T) {
	findOne(t, api.Dim{}, "", 0, api.ErrSyntax)
	findOne(t, api.Dim{Name: "x"}, "a", 0, api.ErrNone)
	findOne(t, dim("x", 13), "b", 0, api.ErrFull)
	for i := 0; i < 4; i++ {
		findOne(t, with(4, i, func(m *api.Member) { m.Sign = 2 }), "b", 0, api.ErrRange)
		findOne(t, with(4, i, func(m *api.Member) { m.Formula = strings.Repeat("a", 101) }), "nobody", 0, api.ErrFull)
	}
	findOne(t, with(4, 3, func(m *api.Member) { m.Name = "b" }), "b", 0, api.ErrClash)
}

// P2: what is handed in stays as it was.
func TestNothingWritten(t *testing.T) {
	o := sized(3, 4)
	o.Dims[1].Members[2].Parent = 9
	keep := sized(3, 4)
	keep.Dims[1].Members[2].Parent = 9
	outline.All(o)
	outline.Check(o.Dims[1])
	outline.Find(o.Dims[0], "c")
	if !reflect.DeepEqual(o, keep) {
		t.Errorf("the outline was written into: %v", o)
	}
}

// A fresh outline is the same, right or not, and neither changes with the other one.
func TestFresh(t *testing.T) {
	wrong := sized(2, 3)
	wrong.Dims[1] = api.Dim{Name: "X", Solve: -1, Members: []api.Member{{Name: "Y", Parent: 7, Sign: 7, Formula: "+"}}}
	for _, o := range []api.Outline{{}, {Dims: []api.Dim{}}, {Dims: make([]api.Dim, 5)}, sized(1), sized(3, 4), wrong} {
		was := fmt.Sprint(o)
		a, b := outline.Fresh(o), outline.Fresh(o)
		if !reflect.DeepEqual(a, o) {
			t.Errorf("Fresh(%v) = %v", o, a)
		}
		for i, d := range a.Dims {
			for k := range d.Members {
				d.Members[k] = api.Member{Name: "changed"}
			}
			a.Dims[i] = api.Dim{Name: "changed"}
		}
		if fmt.Sprint(o) != was || fmt.Sprint(b) != was {
			t.Errorf("what is fresh is shared: %v, %v, want %s", o, b, was)
		}
	}
	// Nor are the bytes of a text shared.
	o, was := sized(2, 3), sized(2, 3)
	o.Dims[1].Members[1].Formula, was.Dims[1].Members[1].Formula = "a+a", "a+a"
	a := outline.Fresh(o)
	if !reflect.DeepEqual(a, was) {
		t.Errorf("Fresh(%v) = %v", was, a)
	}
	for i, d := range o.Dims {
		if unsafe.StringData(a.Dims[i].Name) == unsafe.StringData(d.Name) {
			t.Errorf("the name of dim %d is shared", i)
		}
		for k, m := range d.Members {
			n := a.Dims[i].Members[k]
			if unsafe.StringData(n.Name) == unsafe.StringData(m.Name) || m.Formula != "" && unsafe.StringData(n.Formula) == unsafe.StringData(m.Formula) {
				t.Errorf("a text of member %d of dim %d is shared", k, i)
			}
		}
	}
}
