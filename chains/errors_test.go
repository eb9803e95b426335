package chains

import (
	"math"
	"slices"
	"testing"

	"courierbag/api"
)

// No seed is known of which permute.Of returns an error for a number of servers within
// the limits, and One has no error for only some of the chains that Form asks of. So
// the errors come from functions of the tests here.

func TestP1401OneReturnsTheErrorOfThePermutation(t *testing.T) {
	for _, failed := range []api.Errno{api.ErrDraw, api.ErrArg, api.ErrNone} {
		for _, p := range [][]int{nil, {}, {2, 0, 1}} {
			asked := 0
			got, err := first(2, func() ([]int, api.Errno) {
				asked++
				return p, failed
			})
			if len(got) != 0 || err != failed || asked != 1 {
				t.Errorf("with %v and the error %d: %v, %d, asked %d times", p, failed, got, err, asked)
			}
		}
	}
}

func TestP1401OneTakesTheFirstOfThePermutation(t *testing.T) {
	p := []int{4, 2, 0, 1, 3}
	for k := 1; k <= len(p); k++ {
		got, err := first(k, func() ([]int, api.Errno) { return p, api.OK })
		if !slices.Equal(got, p[:k]) || err != api.OK {
			t.Errorf("the first %d of %v are %v, %d", k, p, got, err)
		}
	}
}

// The numbers of the permutation that are not in the chain are not behind it either.
func TestP1402OneIsNoPieceOfThePermutation(t *testing.T) {
	p := []int{4, 2, 0, 1, 3}
	for k := 1; k <= len(p); k++ {
		got, _ := first(k, func() ([]int, api.Errno) { return p, api.OK })
		got = got[:cap(got)]
		for i := range got {
			got[i] = -7
		}
		if !slices.Equal(p, []int{4, 2, 0, 1, 3}) {
			t.Fatalf("the first %d are a piece of the permutation", k)
		}
	}
}

// chainsUpTo returns each chain's number by itself, and from a chain on an error; the
// chains that it was asked of come into asked.
func chainsUpTo(last int, failed api.Errno, asked *[]int) func(int) ([]int, api.Errno) {
	return func(chain int) ([]int, api.Errno) {
		*asked = append(*asked, chain)
		if chain > last {
			return nil, failed + api.Errno(chain-last-1)
		}
		return []int{chain}, api.OK
	}
}

func TestP1401FormReturnsTheFirstErrorOfOne(t *testing.T) {
	for _, n := range []int{1, 2, 10, 999, 1000} {
		for _, last := range []int{-1, n/2 - 1, n - 2} {
			for _, failed := range []api.Errno{api.ErrDraw, api.ErrArg, api.ErrNone} {
				var asked []int
				got, err := each(n, chainsUpTo(last, failed, &asked))
				if len(got) != 0 || err != failed {
					t.Errorf("of %d chains, with error %d behind chain %d: %v, %d", n, failed, last, got, err)
				}
			}
		}
	}
}

func TestP1401FormAsksInAscendingOrder(t *testing.T) {
	for _, n := range []int{1, 2, 3, 40, 999, 1000} {
		var asked []int
		got, err := each(n, chainsUpTo(n, api.ErrDraw, &asked))
		if len(got) != n || err != api.OK || len(asked) != n {
			t.Fatalf("of %d chains: %d, error %d, %d asked", n, len(got), err, len(asked))
		}
		for chain, l := range got {
			if asked[chain] != chain || !slices.Equal(l, []int{chain}) {
				t.Fatalf("of %d chains, at %d: %v, asked %d", n, chain, l, asked[chain])
			}
		}
	}
}

func TestP1401FormOfBadCountsAsksNothing(t *testing.T) {
	for _, n := range []int{math.MinInt, -1, 0, 1001, math.MaxInt} {
		var asked []int
		got, err := each(n, chainsUpTo(-1, api.ErrDraw, &asked))
		if len(got) != 0 || err != api.ErrArg || len(asked) != 0 {
			t.Errorf("of %d chains: %v, %d, asked %v", n, got, err, asked)
		}
	}
}
