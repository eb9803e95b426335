package sets_test

import (
	"math"
	"math/big"
	"testing"

	"courierbag/sets"
)

// maxRoot is the root of the greatest int.
const maxRoot = 3037000499

// checkRoot sees that Root returns that root of n.
func checkRoot(t *testing.T, n, want int) {
	t.Helper()
	if got := sets.Root(n); got != want {
		t.Errorf("Root(%d) = %d, want %d", n, got, want)
	}
}

// These roots were computed apart from any Go program.
func TestP1501RootFixedNumbers(t *testing.T) {
	for _, c := range []struct{ n, want int }{
		{0, 0}, {1, 1}, {2, 1}, {3, 1}, {4, 2}, {5, 2}, {8, 2}, {9, 3}, {10, 3}, {15, 3}, {16, 4}, {17, 4}, {24, 4}, {25, 5}, {26, 5},
		{99, 9}, {100, 10}, {101, 10}, {9999, 99}, {10000, 100}, {65535, 255}, {65536, 256}, {999999, 999}, {1000000, 1000},
		{2147483647, 46340}, {2147483648, 46340}, {4294967295, 65535}, {4294967296, 65536}, {4294967297, 65536},
		{4503599627370496, 67108864}, {9007199254740991, 94906265}, {9007199254740992, 94906265}, {9007199254740993, 94906265},
		{1152921504606846975, 1073741823}, {2305843009213693950, 1518500249}, {2305843009213693951, 1518500249},
		{2305843009213693952, 1518500249}, {4611686018427387903, 2147483647}, {4611686018427387904, 2147483648},
		{4611686018427387905, 2147483648}, {999999999999999999, 999999999}, {1000000000000000000, 1000000000},
		{9223372036854775807, 3037000499},
	} {
		checkRoot(t, c.n, c.want)
	}
}

// With 64 bits and no sign, most of these numbers have great roots.
func TestP1501RootOfNegativeNumbers(t *testing.T) {
	for n := -1; n >= -2000; n-- {
		checkRoot(t, n, 0)
	}
	for shift := range 64 {
		for off := range 3 {
			if n := -1<<shift + off - 1; n < 0 {
				checkRoot(t, n, 0)
			}
		}
	}
	for _, n := range []int{math.MinInt, math.MinInt + 1, math.MinInt + 4, -math.MaxInt, math.MinInt32, -maxRoot * maxRoot, -maxRoot} {
		checkRoot(t, n, 0)
	}
}

func TestP1501RootOfSmallNumbers(t *testing.T) {
	root := 0
	for n := range 300000 {
		if (root+1)*(root+1) == n {
			root++
		}
		checkRoot(t, n, root)
	}
}

// checkSquare sees the roots of the square of root, a positive number, of the numbers
// beside it, and of the last ones ahead of the next square.
func checkSquare(t *testing.T, root int) {
	t.Helper()
	square := root * root
	checkRoot(t, square-1, root-1)
	checkRoot(t, square, root)
	checkRoot(t, square+1, root)
	checkRoot(t, square+root, root)
	if root < maxRoot {
		checkRoot(t, square+2*root-1, root)
		checkRoot(t, square+2*root, root)
		checkRoot(t, square+2*root+1, root+1)
	}
}

func TestP1501RootBesideSquares(t *testing.T) {
	for root := 1; root <= 5000; root++ {
		checkSquare(t, root)
	}
	for root := maxRoot - 5000; root <= maxRoot; root++ {
		checkSquare(t, root)
	}
	for shift := 13; shift <= 31; shift++ {
		for off := -100; off <= 100; off++ {
			checkSquare(t, 1<<shift+off)
		}
	}
	for root := 5000; root <= maxRoot; root += 777777 {
		checkSquare(t, root)
	}
}

func TestP1501RootOfTheGreatestNumbers(t *testing.T) {
	for off := range 5000 {
		checkRoot(t, math.MaxInt-off, maxRoot)
	}
	for n := maxRoot * maxRoot; n < math.MaxInt-1<<20; n += 1 << 20 {
		checkRoot(t, n, maxRoot)
	}
	checkRoot(t, maxRoot*maxRoot-1, maxRoot-1)
}

// mixed has numbers of no order, each one of another i.
func mixed(i int) int { return int(uint64(i)*0x9e3779b97f4a7c15>>1 ^ uint64(i)) }

func TestP1501RootOfNumbersOfEveryLength(t *testing.T) {
	for shift := range 63 {
		for i := range 1000 {
			n := mixed(i) >> shift
			want := new(big.Int).Sqrt(big.NewInt(int64(n)))
			checkRoot(t, n, int(want.Int64()))
		}
	}
}
