package solve_test

import (
	"math"
	"reflect"
	"slices"
	"testing"

	"tallyhall/api"
	"tallyhall/cell"
	"tallyhall/place"
	"tallyhall/plain"
	"tallyhall/rules"
	"tallyhall/solve"
)

func planOf(t *testing.T, o api.Outline) *solve.Plan {
	t.Helper()
	plan, err := solve.New(o)
	if err != nil {
		t.Fatalf("New(%v): %v", o, err)
	}
	if count, _ := place.Cells(o); plan.Places() != count {
		t.Fatalf("New(%v) has %d places, want %d", o, plan.Places(), count)
	}
	return plan
}

// needsAll asks every place, by number.
func needsAll(t *testing.T, plan *solve.Plan, want ...[]int) {
	t.Helper()
	if plan.Places() != len(want) {
		t.Fatalf("%d places, want %d", plan.Places(), len(want))
	}
	for n, w := range want {
		if got, err := plan.Needs(n); err != nil || !slices.Equal(got, w) {
			t.Errorf("Needs(%d) = %v, %v, want %v", n, got, err, w)
		}
	}
}

// The places by which each is told rise, whatever the order of names, and hang on the solves.
func TestPlanNeeds(t *testing.T) {
	needsAll(t, planOf(t, shop("1", "0")), []int{3, 6}, []int{4, 7}, []int{5, 8}, []int{4, 5}, nil, nil, []int{7, 8}, nil, nil, []int{0, 3}, []int{1, 4}, []int{2, 5})
	needsAll(t, planOf(t, shop("0", "1")), []int{1, 2}, []int{4, 7}, []int{5, 8}, []int{4, 5}, nil, nil, []int{7, 8}, nil, nil, []int{10, 11}, []int{1, 4}, []int{2, 5})
	needsAll(t, planOf(t, cube("x 0 z:-1:1:y-b y:-1:1: b:-1:1:")), []int{1, 2}, nil, nil)
	needsAll(t, planOf(t, cube("x 0 a:-1:1:b*b+b b:-1:1: c:-1:1:7")), []int{1}, nil, nil)
	needsAll(t, planOf(t, cube("x 0 a:-1:1: b:0:0: c:0:-1: d:1:0:")), []int{2}, nil, nil, nil)
}

// Who uses whom is who needs whom, the other way round; a place that needs none may be no place of leafs.
func TestPlanUsersAndLeafs(t *testing.T) {
	for _, c := range []struct {
		o     api.Outline
		users [][]int
		leafs []int
	}{
		{shop("1", "0"), [][]int{{9}, {10}, {11}, {0, 9}, {1, 3, 10}, {2, 3, 11}, {0}, {1, 6}, {2, 6}, nil, nil, nil}, []int{4, 5, 7, 8}},
		{shop("0", "1"), [][]int{nil, {0, 10}, {0, 11}, nil, {1, 3, 10}, {2, 3, 11}, nil, {1, 6}, {2, 6}, nil, {9}, {9}}, []int{4, 5, 7, 8}},
		{cube("x 0 z:-1:1:y-b y:-1:1: b:-1:1:"), [][]int{nil, {0}, {0}}, []int{1, 2}},
		{cube("x 0 a:-1:1: b:-1:1:a"), [][]int{{1}, nil}, []int{0}},
		{cube("x 0 a:-1:1:b*b+b b:-1:1: c:-1:1:7"), [][]int{nil, {0}, nil}, []int{1}},
		{cube("x 0 a:-1:1: b:0:0: c:0:-1: d:1:0:"), [][]int{nil, nil, {0}, nil}, []int{2, 3}},
	} {
		plan := planOf(t, c.o)
		for range 2 {
			got := plan.Users()
			if !slices.EqualFunc(got, c.users, slices.Equal) {
				t.Errorf("Users of %v = %v, want %v", c.o, got, c.users)
			}
			for n := range got {
				_ = append(got[n], -7)
				for i := range got[n] {
					got[n][i] = -7
				}
			}
		}
		for n := -3; n < len(c.users)+3; n++ {
			if got, want := plan.Leaf(n), slices.Contains(c.leafs, n); got != want {
				t.Errorf("Leaf(%d) of %v = %v, want %v", n, c.o, got, want)
			}
		}
		if plan.Leaf(math.MinInt) || plan.Leaf(math.MaxInt) {
			t.Error("there is no such place")
		}
	}
}

// A cell is told of those that are handed in, right or not; at a place of leafs it stays.
func TestPlanTell(t *testing.T) {
	plan := planOf(t, shop("1", "0"))
	cells := make([]api.Cell, 12)
	for n := range cells {
		cells[n] = cell.Of(10 * n)
	}
	was := slices.Clone(cells)
	for n, want := range []int{30 - 60, 40 - 70, 50 - 80, 90, 40, 50, 150, 70, 80, 0, 10 * 100 / 40, 20 * 100 / 50} {
		if got, err := plan.Tell(cells, n); err != nil || got != cell.Of(want) {
			t.Errorf("Tell(%d) = %v, %v, want %d", n, got, err, want)
		}
	}
	if !slices.Equal(cells, was) {
		t.Error("cells were written into")
	}
}

func TestPlanWrong(t *testing.T) {
	for _, o := range wrongOutlines() {
		_, _, want := rules.All(o)
		if plan, err := solve.New(o); plan != nil || plain.Told(err) != plain.Told(want) {
			t.Errorf("New(%v) = %v, %v, want %v", o, plan, err, want)
		}
	}
	plan := planOf(t, shop("1", "0"))
	for _, n := range []int{-1, 12, 13, math.MinInt, math.MaxInt} {
		if got, err := plan.Needs(n); len(got) > 0 || plain.Told(err) != api.ErrRange {
			t.Errorf("Needs(%d) = %v, %v", n, got, err)
		}
		for _, many := range []int{0, 11, 12, 13} {
			if got, err := plan.Tell(make([]api.Cell, many), n); got != (api.Cell{}) || plain.Told(err) != api.ErrRange {
				t.Errorf("Tell of %d cells, %d = %v, %v", many, n, got, err)
			}
		}
	}
	for _, many := range []int{0, 1, 11, 13, 3000} {
		for n := range 12 {
			if got, err := plan.Tell(make([]api.Cell, many), n); got != (api.Cell{}) || plain.Told(err) != api.ErrShape {
				t.Errorf("Tell of %d cells, %d = %v, %v", many, n, got, err)
			}
		}
	}
	cells := make([]api.Cell, 12)
	cells[4] = api.Cell{Kind: api.Empty, N: 1}
	for _, n := range []int{1, 3, 10} {
		if got, err := plan.Tell(cells, n); got != (api.Cell{}) || plain.Told(err) != api.ErrRange {
			t.Errorf("Tell(%d) of a wrong cell = %v, %v", n, got, err)
		}
	}
}

// A plan is not changed by what becomes of the outline, nor of what it answered.
func TestPlanKeepsNothing(t *testing.T) {
	o := shop("1", "0")
	plan, other := planOf(t, o), planOf(t, shop("1", "0"))
	for i := range o.Dims {
		for k := range o.Dims[i].Members {
			o.Dims[i].Members[k] = api.Member{Name: "X", Parent: 7, Sign: 7, Formula: "+"}
		}
		o.Dims[i] = api.Dim{}
	}
	for n := range plan.Places() {
		l, err := plan.Needs(n)
		if err != nil {
			t.Fatal(err)
		}
		for i := range l {
			l[i] = -7
		}
		_ = append(l, -7)
	}
	if !reflect.DeepEqual(plan, other) {
		t.Error("the plan was changed")
	}
}
