package sets_test

import (
	"math"
	"math/big"
	"testing"

	"courierbag/api"
	"courierbag/sets"
)

// maxPaired is the greatest number that Pair takes.
const maxPaired = 1 << 20

// checkPair sees that Pair returns that number, in either order.
func checkPair(t *testing.T, a, b, want int) {
	t.Helper()
	for _, c := range [][2]int{{a, b}, {b, a}} {
		if got, err := sets.Pair(c[0], c[1]); got != want || err != api.OK {
			t.Fatalf("Pair(%d, %d) = %d, %d, want %d", c[0], c[1], got, err, want)
		}
	}
}

// rejectPair sees that Pair returns nothing, in either order.
func rejectPair(t *testing.T, a, b int) {
	t.Helper()
	for _, c := range [][2]int{{a, b}, {b, a}} {
		if got, err := sets.Pair(c[0], c[1]); got != 0 || err != api.ErrArg {
			t.Errorf("Pair(%d, %d) = %d, %d", c[0], c[1], got, err)
		}
	}
}

// pairNumber is the chapter's number of a pair, by big numbers.
func pairNumber(a, b int) int {
	greater, smaller := big.NewInt(int64(a)), big.NewInt(int64(b))
	if greater.Cmp(smaller) < 0 {
		greater, smaller = smaller, greater
	}
	n := new(big.Int).Sub(greater, big.NewInt(1))
	n.Mul(n, greater)
	n.Div(n, big.NewInt(2))
	return int(n.Add(n, smaller).Int64())
}

// badPaired are outside the limits: just outside, at the least and the greatest int,
// and within the limits if they are cut to fewer bits.
func badPaired() []int {
	return []int{-1, -2, -3, -maxPaired, maxPaired + 1, maxPaired + 2, 2 * maxPaired, 1<<32 + 3, -1<<32 + 3, math.MinInt32,
		math.MaxInt32, math.MaxUint32, math.MinInt, math.MinInt + 3, math.MaxInt - 1, math.MaxInt}
}

// These numbers were computed apart from any Go program.
func TestP1501PairFixedNumbers(t *testing.T) {
	for _, c := range []struct{ a, b, want int }{
		{0, 1, 0}, {0, 2, 1}, {1, 2, 2}, {0, 3, 3}, {1, 3, 4}, {2, 3, 5}, {0, 4, 6}, {3, 4, 9}, {5, 9, 41}, {10, 45, 1000}, {44, 45, 1034},
		{0, 1448, 1047628}, {1447, 1448, 1049075}, {7, 65536, 2147450887}, {65535, 65536, 2147516415}, {0, 92682, 4294930221},
		{92681, 92682, 4295022902}, {12345, 678901, 230452956795}, {524288, 524289, 137439739904}, {0, 1048575, 549754241025},
		{1048574, 1048575, 549755289599}, {0, 1048576, 549755289600}, {1, 1048576, 549755289601}, {1048575, 1048576, 549756338175},
	} {
		checkPair(t, c.a, c.b, c.want)
	}
}

// The pairs are counted one by one, and so have different numbers, and none is left out.
func TestP1501PairsOfSmallNumbersAreCounted(t *testing.T) {
	count := 0
	for greater := 1; greater <= 1500; greater++ {
		for smaller := range greater {
			checkPair(t, greater, smaller, count)
			count++
		}
	}
}

// Of each greater number, the pairs are behind all those of the numbers below it.
func TestP1501PairsOfEveryGreaterNumberAreBehindEachOther(t *testing.T) {
	next := 0
	for greater := 1; greater <= maxPaired; greater++ {
		checkPair(t, greater, 0, next)
		checkPair(t, greater, greater/2, next+greater/2)
		checkPair(t, greater, greater-1, next+greater-1)
		next += greater
	}
}

func TestP1501PairOfAnyNumbers(t *testing.T) {
	for i := range 200000 {
		a, b := mixed(i)%(maxPaired+1), mixed(i+1000000)>>20%(maxPaired+1)
		if a != b {
			checkPair(t, a, b, pairNumber(a, b))
		}
	}
}

func TestP1501PairOfEqualNumbers(t *testing.T) {
	for a := range 3000 {
		rejectPair(t, a, a)
	}
	for _, a := range []int{1 << 16, 1<<19 + 1, maxPaired - 1, maxPaired} {
		rejectPair(t, a, a)
	}
	for _, a := range badPaired() {
		rejectPair(t, a, a)
	}
}

func TestP1501PairOfBadNumbers(t *testing.T) {
	for _, bad := range badPaired() {
		for _, right := range []int{0, 1, 2, 3, 4, 1448, maxPaired - 1, maxPaired} {
			rejectPair(t, bad, right)
		}
		for _, other := range badPaired() {
			rejectPair(t, bad, other)
		}
	}
	for _, right := range []int{0, 1, maxPaired - 1, maxPaired} {
		for off := 1; off <= 2000; off++ {
			rejectPair(t, right, -off)
			rejectPair(t, right, maxPaired+off)
		}
		for shift := 21; shift < 63; shift++ {
			rejectPair(t, right, 1<<shift+5)
			rejectPair(t, right, -1<<shift+5)
		}
	}
}
