package permute_test

import (
	"fmt"
	"math"
	"slices"
	"testing"

	"courierbag/api"
	"courierbag/beacon"
	"courierbag/permute"
)

// isPermutation sorts a copy, which Right does not.
func isPermutation(p []int) bool {
	return slices.Equal(slices.Sorted(slices.Values(p)), ascending(len(p)))
}

// checkBoth sees what Right and Inverse return.
func checkBoth(t *testing.T, p []int, right bool) {
	t.Helper()
	if got := permute.Right(p); got != right {
		t.Errorf("Right(%.200s) = %t", fmt.Sprint(p), got)
	}
	q, ok := permute.Inverse(p)
	if ok != right {
		t.Errorf("Inverse(%.200s) has %t", fmt.Sprint(p), ok)
	}
	if !right {
		if len(q) != 0 {
			t.Errorf("Inverse(%.200s) = %.200s, false", fmt.Sprint(p), fmt.Sprint(q))
		}
		return
	}
	if len(q) != len(p) {
		t.Fatalf("Inverse(%.200s) has %d numbers", fmt.Sprint(p), len(q))
	}
	for i, x := range p {
		if q[x] != i {
			t.Fatalf("Inverse(%.200s) has %d at %d, want %d", fmt.Sprint(p), q[x], x, i)
		}
	}
}

// random has a permutation of any length, unlike Of.
func random(n int, s *beacon.Stream) []int {
	p := ascending(n)
	for i := n - 1; i >= 1; i-- {
		j, _ := s.Next(uint64(i) + 1)
		p[i], p[j] = p[j], p[i]
	}
	return p
}

func TestP1301InverseFixedNumbers(t *testing.T) {
	for _, c := range []struct{ p, want []int }{
		{nil, nil},
		{[]int{}, nil},
		{[]int{0}, []int{0}},
		{[]int{0, 1}, []int{0, 1}},
		{[]int{1, 0}, []int{1, 0}},
		{[]int{1, 2, 0}, []int{2, 0, 1}},
		{[]int{2, 0, 1}, []int{1, 2, 0}},
		{[]int{2, 0, 1, 3}, []int{1, 2, 0, 3}},
		{[]int{4, 3, 2, 1, 0}, []int{4, 3, 2, 1, 0}},
		{[]int{9, 4, 1, 8, 0, 7, 3, 2, 6, 5}, []int{4, 2, 7, 6, 1, 9, 8, 5, 3, 0}},
	} {
		if got, ok := permute.Inverse(c.p); !slices.Equal(got, c.want) || !ok {
			t.Errorf("Inverse(%v) = %v, %t, want %v", c.p, got, ok, c.want)
		}
		if !permute.Right(c.p) {
			t.Errorf("Right(%v) = false", c.p)
		}
	}
}

// A nil slice and an empty one, also one with room, are all permutations.
func TestP1301NoNumbers(t *testing.T) {
	for _, p := range [][]int{nil, {}, make([]int, 0, 5), []int{7, 7}[:0]} {
		checkBoth(t, p, true)
	}
}

func TestP1301WhatIsNoPermutation(t *testing.T) {
	for _, p := range [][]int{
		{1}, {-1}, {2}, {math.MinInt}, {math.MaxInt},
		{0, 0}, {1, 1}, {0, 2}, {2, 0}, {2, 1}, {1, 2}, {-1, 0}, {0, -1}, {1, -1}, {-1, 1}, {-1, -2}, {2, 2},
		{0, math.MaxInt}, {math.MaxInt, 0}, {math.MinInt, 0}, {0, math.MinInt}, {math.MinInt, math.MaxInt},
		{1, 2, 3}, {2, 1, 2}, {0, 1, 1}, {0, 0, 2}, {0, 1, 3}, {-1, 0, 1}, {0, 1, 2, 4}, {0, 0, 0}, {3, 2, 1},
		{0, 3, 3, 0}, {1, 1, 2, 2}, {0, 0, 3, 3},
	} {
		checkBoth(t, p, false)
	}
}

// everySlice calls see for every slice that has p[:at] and then numbers from -1 on to
// the length and one.
func everySlice(p []int, at int, see func()) {
	if at == len(p) {
		see()
		return
	}
	for x := -1; x <= len(p)+1; x++ {
		p[at] = x
		everySlice(p, at+1, see)
	}
}

func TestP1301RightOfEveryShortSlice(t *testing.T) {
	for n, want := range []int{1, 1, 2, 6, 24, 120} {
		p, count := make([]int, n), 0
		everySlice(p, 0, func() {
			checkBoth(t, p, isPermutation(p))
			if permute.Right(p) {
				count++
			}
		})
		if count != want {
			t.Errorf("of %d numbers, %d permutations were met, want %d", n, count, want)
		}
	}
}

// A permutation in which one number is another one is none: one that is there twice
// then, one outside, and one that would be right if it were cut to fewer bits.
func TestP1301RightOfASpoiledPermutation(t *testing.T) {
	s := beacon.New(upward(), "spoil")
	for _, n := range []int{1, 2, 3, 10, 255, 256, 257, api.MaxBatch} {
		p := random(n, s)
		for _, at := range []int{0, n / 2, n - 1} {
			kept := p[at]
			other := p[(at+1)%n]
			for _, x := range []int{-1, -2, -n, -n - 1, n, n + 1, 2 * n, math.MinInt, math.MinInt + 1, math.MaxInt,
				math.MaxInt - 1, math.MinInt32, math.MaxInt32, -kept - 1, kept + n, kept - n, kept + 1<<8, kept + 1<<16,
				kept + 1<<31, kept + 1<<32, kept - 1<<32, kept + 1<<62, kept + math.MinInt, other} {
				p[at] = x
				checkBoth(t, p, isPermutation(p))
			}
			p[at] = kept
			checkBoth(t, p, true)
		}
	}
}

// A number is there twice, at any two places.
func TestP1301RightOfANumberTwice(t *testing.T) {
	s := beacon.New(upward(), "twice")
	for _, n := range []int{2, 3, 9, 40} {
		p := random(n, s)
		for to := range p {
			for from := range p {
				kept := p[to]
				p[to] = p[from]
				checkBoth(t, p, to == from)
				p[to] = kept
			}
		}
	}
}

// These have the sum of a permutation, and from the third one on also its sum of
// squares; the last ones have its sum bit by bit, too.
func TestP1301RightLooksAtEachNumber(t *testing.T) {
	for _, p := range [][]int{
		{1, 1, 1}, {3, 0, 0, 3}, {1, 2, 6, 2, 3, 1, 6}, {0, 5, 4, 0, 3, 4, 5},
		{1, 1, 2, 2, 4, 4, 7, 7}, {6, 1, 6, 1, 5, 2, 6, 1}, {0, 3, 5, 6, 6, 5, 3, 0}, {8, 7, 4, 2, 1, 1, 2, 4, 7},
	} {
		checkBoth(t, p, false)
	}
}

// Right and Inverse have no limit of their own.
func TestP1301RightOfManyNumbers(t *testing.T) {
	for _, n := range []int{api.MaxBatch + 1, 1<<16 - 1, 1 << 16, 1<<16 + 1, 1 << 20} {
		p := random(n, beacon.New(upward(), "great"))
		checkBoth(t, p, true)
		kept := p[n-1]
		for _, x := range []int{n, -1, p[0], kept + 1<<32} {
			p[n-1] = x
			checkBoth(t, p, false)
		}
		p[n-1] = kept
		p[0] = n
		checkBoth(t, p, false)
	}
}

func TestP1301InverseOfTheInverse(t *testing.T) {
	s := beacon.New(sampleKey(2), "inverse")
	for n := range api.MaxBatch + 1 {
		if n > 100 && n%50 != 0 {
			continue
		}
		p, err := permute.Of(n, s)
		if err != api.OK {
			t.Fatalf("Of(%d) has the error %d", n, err)
		}
		checkBoth(t, p, true)
		q, _ := permute.Inverse(p)
		checkBoth(t, q, true)
		if again, ok := permute.Inverse(q); !slices.Equal(again, p) || !ok {
			t.Errorf("the Inverse of the Inverse of %v is %v, %t", p, again, ok)
		}
	}
}

// A permutation and its Inverse, one behind the other in either order, change nothing.
func TestP1301InverseTakesBack(t *testing.T) {
	for n := range 60 {
		p, _ := permute.Of(n, beacon.New(sampleKey(n), "back"))
		q, _ := permute.Inverse(p)
		there, back := make([]int, n), make([]int, n)
		for i := range p {
			there[i], back[i] = q[p[i]], p[q[i]]
		}
		if !slices.Equal(there, ascending(n)) || !slices.Equal(back, ascending(n)) {
			t.Errorf("Inverse of %v is %v", p, q)
		}
	}
}
