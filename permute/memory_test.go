package permute_test

import (
	"fmt"
	"math"
	"slices"
	"sync"
	"testing"

	"courierbag/api"
	"courierbag/beacon"
	"courierbag/permute"
)

// some are slices that are permutations and slices that are not.
func some() [][]int {
	l := [][]int{{}, {0}, {1, 0}, {2, 0, 1, 3}, ascending(20), {1}, {-1}, {0, 0}, {0, 1, 1}, {3, 2, 1, 0, 4, 6},
		{math.MaxInt, 0}, {1, math.MinInt}, append(ascending(30), 7)}
	for n := 1; n < 50; n += 6 {
		l = append(l, random(n, beacon.New(sampleKey(n), "some")))
	}
	return l
}

// fill takes any number; a result that shares memory with another one shows it there.
func fill(l []int) {
	l = l[:cap(l)]
	for i := range l {
		l[i] = -7
	}
}

func TestP1302ArgumentsAreNotModified(t *testing.T) {
	for _, p := range some() {
		all := append(append([]int{-5, 0, 1, 2}, p...), 8, 9, -4, 0, 1)
		kept := slices.Clone(all)
		arg := all[4 : 4+len(p)]
		permute.Right(arg)
		permute.Inverse(arg)
		if !slices.Equal(all, kept) {
			t.Errorf("%v, or what lies beside it, was changed to %v", p, all)
		}
	}
}

func TestP1302ArgumentsAreNotKept(t *testing.T) {
	for _, p := range some() {
		arg := slices.Clone(p)
		want, wantOK := permute.Inverse(arg)
		want = slices.Clone(want)
		q, _ := permute.Inverse(arg)
		permute.Right(arg)
		fill(arg)
		if !slices.Equal(q, want) {
			t.Errorf("Inverse(%v) was changed with its argument to %v", p, q)
		}
		if again, ok := permute.Inverse(p); !slices.Equal(again, want) || ok != wantOK {
			t.Errorf("Inverse(%v) = %v, then %v", p, want, again)
		}
	}
}

// Also of a permutation that is its own inverse, the result is another slice.
func TestP1302ResultsAreNew(t *testing.T) {
	for _, n := range []int{0, 1, 2, 3, 16, 17, 100, api.MaxBatch} {
		one, two := beacon.New(upward(), "new"), beacon.New(upward(), "new")
		first, _ := permute.Of(n, one)
		second, _ := permute.Of(n, two)
		if !slices.Equal(first, second) {
			t.Errorf("Of(%d) = %v, then %v", n, first, second)
		}
		want := slices.Clone(first)
		third, _ := permute.Of(n, one)
		wantThird := slices.Clone(third)
		fill(first)
		if !slices.Equal(second, want) || !slices.Equal(third, wantThird) {
			t.Errorf("one Of(%d) was changed with another one", n)
		}
		fill(third)
		if again, _ := permute.Of(n, beacon.New(upward(), "new")); !slices.Equal(again, want) {
			t.Errorf("Of(%d) = %v, then %v", n, want, again)
		}
	}
	for _, p := range some() {
		if !permute.Right(p) {
			continue
		}
		first, _ := permute.Inverse(p)
		second, _ := permute.Inverse(p)
		want, kept := slices.Clone(first), slices.Clone(p)
		fill(first)
		if third, _ := permute.Inverse(p); !slices.Equal(second, want) || !slices.Equal(third, want) || !slices.Equal(p, kept) {
			t.Errorf("Inverse(%v) = %v, then %v", kept, second, third)
		}
	}
}

// What is done with the stream afterwards shows in no result, and the other way round.
func TestP1302StreamIsNotKept(t *testing.T) {
	for _, n := range []int{2, 5, 30} {
		s := newTwins(upward(), "kept")
		p := s.permutation(t, n)
		want := slices.Clone(p)
		for range 10 {
			s.place(t)
		}
		s.permutation(t, n)
		if !slices.Equal(p, want) {
			t.Errorf("Of(%d) was changed with its stream to %v", n, p)
		}
		fill(p)
		s.place(t)
		other := newTwins(upward(), "kept")
		other.permutation(t, n)
		s.permutation(t, n)
		s.place(t)
		other.place(t)
	}
}

// Streams are used in turn, each one as if it were alone.
func TestP1302StreamsAreIndependent(t *testing.T) {
	var all []twins
	for i := range 30 {
		all = append(all, newTwins(sampleKey(i/2), "turn"))
	}
	for round := range 20 {
		for i, s := range all {
			s.permutation(t, (i*round+i)%15)
			if (i+round)%3 == 0 {
				s.place(t)
			}
		}
	}
}

// Inverse and Right draw nothing and remember nothing of what was permuted.
func TestP1302InverseAndRightUseNoStream(t *testing.T) {
	s := newTwins(upward(), "beside")
	for n := range 20 {
		p := s.permutation(t, n)
		checkBoth(t, p, true)
		for _, other := range some() {
			checkBoth(t, other, isPermutation(other))
		}
		s.place(t)
	}
}

// A second run in another order would show one call's trace in the next.
func TestP1302ResultsDependOnArgumentsOnly(t *testing.T) {
	slicesOf := some()
	ask := func(i int) string {
		s := beacon.New(sampleKey(i%7), fmt.Sprint("only ", i/7))
		p, err := permute.Of(i%33, s)
		none, noErr := permute.Of(-i-1, s)
		second, secondErr := permute.Of(i%5, s)
		q, ok := permute.Inverse(slicesOf[i%len(slicesOf)])
		return fmt.Sprint(p, err, none, noErr, second, secondErr, s.Word(), q, ok, permute.Right(slicesOf[(i+1)%len(slicesOf)]))
	}
	var first [100]string
	for i := range first {
		first[i] = ask(i)
	}
	for i := len(first) - 1; i >= 0; i-- {
		ask(i + 1)
		if again := ask(i); again != first[i] {
			t.Errorf("%d: %s, then %s", i, first[i], again)
		}
	}
}

// A bad slice leaves nothing behind that makes the next one bad.
func TestP1302RightAfterWhatIsNoPermutation(t *testing.T) {
	for n := 1; n < 40; n++ {
		good, bad := random(n, beacon.New(sampleKey(n), "after")), ascending(n)
		bad[n-1] = 0
		for range 3 {
			checkBoth(t, good, true)
			checkBoth(t, bad, n == 1)
			checkBoth(t, good[:0], true)
		}
	}
}

func TestP1302CallsAtOnce(t *testing.T) {
	shared := random(64, beacon.New(upward(), "at once"))
	var wait sync.WaitGroup
	for i := range 16 {
		wait.Go(func() {
			for round := range 200 {
				n := (i*7 + round) % 90
				own, twin := beacon.New(sampleKey(i), fmt.Sprint(round)), beacon.New(sampleKey(i), fmt.Sprint(round))
				p, err := permute.Of(n, own)
				if !slices.Equal(p, random(n, twin)) || err != api.OK {
					t.Errorf("Of(%d) beside other calls = %v, %d", n, p, err)
				}
				for _, each := range [][]int{p, shared} {
					q, ok := permute.Inverse(each)
					if !ok || !permute.Right(each) || len(q) != len(each) {
						t.Errorf("%v is no permutation beside other calls", each)
						continue
					}
					for at, x := range each {
						if q[x] != at {
							t.Errorf("Inverse(%v) beside other calls = %v", each, q)
							break
						}
					}
				}
				if permute.Right([]int{0, i, i}) {
					t.Errorf("Right of %d twice beside other calls = true", i)
				}
			}
		})
	}
	wait.Wait()
}
