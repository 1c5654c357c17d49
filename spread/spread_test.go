package spread_test

import (
	"fmt"
	"math"
	"math/big"
	"slices"
	"strconv"
	"strings"
	"testing"

	"tallyhall/api"
	"tallyhall/plain"
	"tallyhall/spread"
)

// numbers, blanks between.
func numbers(text string) []int {
	var out []int
	for _, w := range strings.Fields(text) {
		out = append(out, number(w))
	}
	return out
}

func number(text string) int {
	n, err := strconv.Atoi(text)
	if err != nil {
		panic(err)
	}
	return n
}

// short text of what may be great.
func short(v any) string { return fmt.Sprintf("%.300s", fmt.Sprintf("%+v", v)) }

// many times a number.
func many(n, times int) []int { return slices.Repeat([]int{n}, times) }

func sum(l []int) int {
	n := 0
	for _, k := range l {
		n += k
	}
	return n
}

func evenOne(t *testing.T, n, parts int, want []int, e api.Errno) {
	t.Helper()
	got, err := spread.Even(n, parts)
	if plain.Told(err) != e || !slices.Equal(got, want) {
		t.Errorf("Even(%d, %d) = %v, %v, want %v, %v", n, parts, got, err, want, e)
	}
}

func likeOne(t *testing.T, n int, weights, want []int, e api.Errno) {
	t.Helper()
	got, err := spread.Like(n, weights)
	if plain.Told(err) != e || !slices.Equal(got, want) {
		t.Errorf("Like(%d, %s) = %v, %v, want %v, %v", n, short(weights), got, err, want, e)
	}
}

func TestEven(t *testing.T) {
	evenOne(t, 10, 3, numbers("4 3 3"), api.OK)
	evenOne(t, 11, 3, numbers("4 4 3"), api.OK)
	evenOne(t, 12, 3, numbers("4 4 4"), api.OK)
	evenOne(t, 2, 5, numbers("1 1 0 0 0"), api.OK)
	evenOne(t, 0, 1, numbers("0"), api.OK)
	evenOne(t, 0, 4, numbers("0 0 0 0"), api.OK)
	evenOne(t, 1, 1, numbers("1"), api.OK)
	evenOne(t, 0, api.MaxEdits, many(0, 60), api.OK)
	evenOne(t, 59, api.MaxEdits, append(many(1, 59), 0), api.OK)
	evenOne(t, api.MaxInput, 1, many(api.MaxInput, 1), api.OK)
	evenOne(t, api.MaxInput, api.MaxEdits, append(many(16667, 40), many(16666, 20)...), api.OK)
}

func TestWrongEvens(t *testing.T) {
	parts := []int{-1, 0, api.MaxEdits + 1, api.MaxInput, math.MinInt, math.MaxInt}
	for _, n := range []int{-1, api.MaxInput + 1, math.MinInt, math.MaxInt} {
		for _, k := range append(parts, 1, 7, api.MaxEdits) {
			evenOne(t, n, k, nil, api.ErrRange)
		}
	}
	for _, k := range parts {
		for _, n := range []int{0, 1, 100, api.MaxInput} {
			evenOne(t, n, k, nil, api.ErrRange)
		}
	}
}

// Nothing is lost, none differs by more than 1, and the greater ones stand first: there is just one such list.
func TestManyEvens(t *testing.T) {
	for parts := 1; parts <= api.MaxEdits; parts++ {
		for k := range 400 {
			n := k
			if k >= 200 {
				n = api.MaxInput - (k - 200)
			}
			got, err := spread.Even(n, parts)
			if err != nil || len(got) != parts || sum(got) != n || got[0]-got[parts-1] > 1 {
				t.Fatalf("Even(%d, %d) = %v, %v", n, parts, got, err)
			}
			for i := 1; i < parts; i++ {
				if got[i] > got[i-1] {
					t.Fatalf("Even(%d, %d) = %v: a greater one stands behind", n, parts, got)
				}
			}
			// Weights that are all the same have rests that are.
			likeOne(t, n, many(1+k%7, parts), got, api.OK)
		}
	}
}

func TestLike(t *testing.T) {
	likeOne(t, 10, numbers("1 2 3 4"), numbers("1 2 3 4"), api.OK)
	likeOne(t, 100, numbers("1 2 3 4"), numbers("10 20 30 40"), api.OK)
	likeOne(t, 5, numbers("4 3 3"), numbers("2 2 1"), api.OK)
	// First 3, 5, 1 and rests of 6, 0, 4 by 10.
	likeOne(t, 10, numbers("18 25 7"), numbers("4 5 1"), api.OK)
	likeOne(t, 10, numbers("36 50 14"), numbers("4 5 1"), api.OK)
	// Of equal rests the first; a greater one behind goes ahead of it.
	likeOne(t, 1, numbers("1 1 1"), numbers("1 0 0"), api.OK)
	likeOne(t, 2, numbers("1 1 1"), numbers("1 1 0"), api.OK)
	likeOne(t, 1, numbers("1 2 2"), numbers("0 1 0"), api.OK)
	likeOne(t, 2, numbers("1 2 2"), numbers("0 1 1"), api.OK)
	likeOne(t, 3, numbers("1 2 2"), numbers("1 1 1"), api.OK)
	likeOne(t, 4, numbers("1 2 2"), numbers("1 2 1"), api.OK)
	// Rests are what counts, not weights.
	likeOne(t, 3, numbers("2 1"), numbers("2 1"), api.OK)
	likeOne(t, 4, numbers("6 1 1"), numbers("3 1 0"), api.OK)
	likeOne(t, 9, numbers("100 1"), numbers("9 0"), api.OK)
	likeOne(t, 51, numbers("100 1"), numbers("50 1"), api.OK)
	// Where nothing weighs, there is nothing.
	likeOne(t, 7, numbers("0 3 0"), numbers("0 7 0"), api.OK)
	likeOne(t, 7, numbers("0 1 0 1 0"), numbers("0 4 0 3 0"), api.OK)
	likeOne(t, 0, numbers("0 1 2"), numbers("0 0 0"), api.OK)
	likeOne(t, 0, numbers("5"), numbers("0"), api.OK)
	likeOne(t, api.MaxInput, numbers("1"), numbers("1000000"), api.OK)
}

func TestGreatLikes(t *testing.T) {
	const most = api.MaxInput
	likeOne(t, most, many(most, 1), many(most, 1), api.OK)
	likeOne(t, most, many(most, 60), append(many(16667, 40), many(16666, 20)...), api.OK)
	likeOne(t, most, many(most-1, 60), append(many(16667, 40), many(16666, 20)...), api.OK)
	likeOne(t, 1, append(many(0, 59), most), append(many(0, 59), 1), api.OK)
	likeOne(t, most, append(many(0, 59), 1), append(many(0, 59), most), api.OK)
	// First nothing and 999999, with rests of 1000000 and 1: the little one gets what is left, wherever it stands.
	likeOne(t, most, []int{1, most}, []int{1, most - 1}, api.OK)
	likeOne(t, most, []int{most, 1}, []int{most - 1, 1}, api.OK)
	likeOne(t, 59, many(most, 60), append(many(1, 59), 0), api.OK)
}

// n is told first, then how many weights there are, then each, then their sum.
func TestWrongLikes(t *testing.T) {
	over := append(many(0, 60), 5)
	wrong := [][]int{{-1}, {api.MaxInput + 1}, {math.MinInt}, {math.MaxInt}, {1, 2, -1}, {-1, 2, 3}, {0, 0, -1}, {1, -1}, {0, api.MaxInput + 1}, {math.MaxInt, math.MaxInt, 2}, {math.MinInt, math.MinInt}}
	for _, n := range []int{-1, api.MaxInput + 1, math.MinInt, math.MaxInt} {
		for _, weights := range append(wrong, nil, []int{}, over, many(-1, 61), many(0, 3), many(1, 3)) {
			likeOne(t, n, weights, nil, api.ErrRange)
		}
	}
	for _, n := range []int{0, 1, 100, api.MaxInput} {
		for _, weights := range [][]int{nil, {}, over, many(1, 61), many(-1, 61), many(0, 61), many(math.MaxInt, 100_000)} {
			likeOne(t, n, weights, nil, api.ErrFull)
		}
		for _, weights := range append(wrong, append(many(1, 59), -1), append(many(0, 59), api.MaxInput+1)) {
			likeOne(t, n, weights, nil, api.ErrRange)
		}
		for _, weights := range [][]int{{0}, {0, 0}, many(0, 60)} {
			likeOne(t, n, weights, nil, api.ErrShape)
		}
	}
}

// expectLike gives one at a time, each to the part that is furthest from its share, as shares are when nothing is rounded.
func expectLike(n int, weights []int) []int {
	total := int64(sum(weights))
	out := make([]int, len(weights))
	lacks := make([]*big.Rat, len(weights))
	for i, w := range weights {
		share := new(big.Rat).Mul(big.NewRat(int64(n), 1), big.NewRat(int64(w), total))
		out[i] = int(new(big.Int).Quo(share.Num(), share.Denom()).Int64())
		lacks[i] = share.Sub(share, big.NewRat(int64(out[i]), 1))
	}
	for sum(out) < n {
		most := 0
		for i, lack := range lacks {
			if lack.Cmp(lacks[most]) > 0 {
				most = i
			}
		}
		out[most]++
		lacks[most] = big.NewRat(-1, 1)
	}
	return out
}

// likeRight: what comes of weights is what is expected, nothing is lost, and what comes of it again is the same.
func likeRight(t *testing.T, n int, weights []int) {
	t.Helper()
	got, err := spread.Like(n, weights)
	if err != nil || sum(got) != n || !slices.Equal(got, expectLike(n, weights)) {
		t.Fatalf("Like(%d, %v) = %v, %v, want %v", n, weights, got, err, expectLike(n, weights))
	}
	for i, w := range weights {
		if w == 0 && got[i] != 0 {
			t.Fatalf("Like(%d, %v) = %v: more than nothing where nothing weighs", n, weights, got)
		}
	}
	if n > 0 {
		likeOne(t, n, got, got, api.OK)
	}
	if total := sum(weights); total <= api.MaxInput {
		likeOne(t, total, weights, weights, api.OK)
	}
	if slices.Max(weights) <= api.MaxInput/7 {
		more := slices.Clone(weights)
		for i := range more {
			more[i] *= 7
		}
		likeOne(t, n, more, got, api.OK)
	}
}

// All weights up to 4 of up to four parts.
func TestSmallLikes(t *testing.T) {
	for parts := 1; parts <= 4; parts++ {
		for code := 1; code < int(math.Pow(5, float64(parts))); code++ {
			weights := make([]int, parts)
			for i, rest := 0, code; i < parts; i, rest = i+1, rest/5 {
				weights[i] = rest % 5
			}
			for n := range 21 {
				likeRight(t, n, weights)
			}
		}
	}
}

func TestManyLikes(t *testing.T) {
	d := dice(1)
	for range 3000 {
		weights := make([]int, 1+d.roll(api.MaxEdits))
		most := []int{2, 10, 1000, api.MaxInput + 1}[d.roll(4)]
		for i := range weights {
			weights[i] = d.roll(most)
		}
		weights[d.roll(len(weights))] = most - 1
		likeRight(t, d.roll([]int{2, 100, api.MaxInput + 1}[d.roll(3)]), weights)
	}
}

// P2: weights stay as they were, what lies behind their length is not read, and what comes out is fresh.
func TestWeightsStay(t *testing.T) {
	weights := append(make([]int, 0, 9), 18, 25, 7)
	weights[:4][3] = -5
	first, err := spread.Like(10, weights)
	if err != nil {
		t.Fatal(err)
	}
	for i := range first[:cap(first)] {
		first[:cap(first)][i] = 99
	}
	likeOne(t, 10, weights, numbers("4 5 1"), api.OK)
	if !slices.Equal(weights[:4], []int{18, 25, 7, -5}) {
		t.Errorf("the weights were written into: %v", weights[:4])
	}
	first, _ = spread.Like(10, weights)
	weights[0], weights[1], weights[2] = 1, 1, 1
	if !slices.Equal(first, numbers("4 5 1")) {
		t.Errorf("what came out changed with the weights: %v", first)
	}
	even, _ := spread.Even(10, 3)
	again, _ := spread.Even(10, 3)
	even[0] = 99
	if !slices.Equal(again, numbers("4 3 3")) {
		t.Errorf("two answers share memory: %v", again)
	}
}

// dice that always fall alike.
type dice uint64

func (d *dice) roll(n int) int {
	*d = *d*6364136223846793005 + 1442695040888963407
	return int(uint64(*d) >> 33 % uint64(n))
}
