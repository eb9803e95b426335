package sets_test

import (
	"math"
	"testing"

	"courierbag/api"
	"courierbag/sets"
)

// checkSides sees that Sides returns that number.
func checkSides(t *testing.T, n, want int) {
	t.Helper()
	if got := sets.Sides(n); got != want {
		t.Errorf("Sides(%d) = %d, want %d", n, got, want)
	}
}

// badCounts are no valid numbers of chains: just outside of the limits, at the least and
// the greatest int, and within the limits if they are cut to fewer bits.
func badCounts() []int {
	return []int{0, -1, -2, -3, -api.MaxChains, api.MaxChains + 1, api.MaxChains + 2, 1448 * 1449 / 2, 1448*1449/2 + 1,
		2 * api.MaxChains, 1<<31 + 3, 1<<32 + 3, -1<<32 + 3, 1<<61 + 1, 1 << 61, math.MinInt32, math.MaxInt32, math.MaxUint32,
		math.MinInt, math.MinInt + 1, math.MinInt + 3, math.MaxInt - 1, math.MaxInt}
}

// These numbers were computed apart from any Go program.
func TestP1501SidesFixedNumbers(t *testing.T) {
	for _, c := range []struct{ n, want int }{
		{1, 1}, {2, 2}, {3, 2}, {4, 3}, {5, 3}, {6, 3}, {7, 4}, {10, 4}, {11, 5}, {15, 5}, {16, 6}, {21, 6}, {22, 7}, {100, 14}, {105, 14},
		{106, 15}, {1000, 45}, {1035, 45}, {1036, 46}, {65536, 362}, {500500, 1000}, {500501, 1001}, {524288, 1024}, {1047628, 1447},
		{1047629, 1448}, {1048575, 1448}, {1048576, 1448},
	} {
		checkSides(t, c.n, c.want)
	}
}

func TestP1501SidesOfEveryCount(t *testing.T) {
	l, pairs := 1, 1
	for n := 1; n <= api.MaxChains; n++ {
		for pairs < n {
			l++
			pairs += l
		}
		checkSides(t, n, l)
	}
}

func TestP1501SidesBesideTheNumbersOfPairs(t *testing.T) {
	checkSides(t, 0, 0)
	checkSides(t, 1, 1)
	checkSides(t, 2, 2)
	for l := 2; l <= 1447; l++ {
		pairs := l * (l + 1) / 2
		checkSides(t, pairs-1, l)
		checkSides(t, pairs, l)
		checkSides(t, pairs+1, l+1)
	}
	checkSides(t, api.MaxChains-1, 1448)
	checkSides(t, api.MaxChains, 1448)
	checkSides(t, api.MaxChains+1, 0)
}

func TestP1501SidesOfBadCounts(t *testing.T) {
	for _, n := range badCounts() {
		checkSides(t, n, 0)
	}
	for off := range 5000 {
		checkSides(t, -off, 0)
		checkSides(t, api.MaxChains+1+off, 0)
		checkSides(t, math.MaxInt-off, 0)
		checkSides(t, math.MinInt+off, 0)
	}
	for shift := 21; shift < 64; shift++ {
		for off := -3; off <= 3; off++ {
			checkSides(t, 1<<shift+off, 0)
			checkSides(t, -1<<shift-off, 0)
		}
	}
}
