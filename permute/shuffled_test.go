package permute

import (
	"math"
	"slices"
	"testing"

	"courierbag/api"
)

// No seed is known of which Next returns an error for a number above 0, so the
// numbers come from a list here.
type list struct {
	numbers []uint64
	last    api.Errno
	asked   []uint64
}

// next returns the numbers, and in the place of what follows them the error.
func (l *list) next(n uint64) (uint64, api.Errno) {
	l.asked = append(l.asked, n)
	if len(l.asked) > len(l.numbers) {
		return 0, l.last
	}
	return l.numbers[len(l.asked)-1], api.OK
}

func TestP1301OfReturnsTheErrorOfNext(t *testing.T) {
	for _, n := range []int{2, 3, 10, 100, api.MaxBatch} {
		for _, good := range []int{0, n/2 - 1, n - 2} {
			for _, last := range []api.Errno{api.ErrDraw, api.ErrArg, api.ErrNone} {
				l := list{numbers: make([]uint64, good), last: last}
				got, err := shuffled(n, l.next)
				if len(got) != 0 || err != last || len(l.asked) != good+1 {
					t.Errorf("of %d numbers, with error %d behind %d: %v, %d, of %d asked", n, last, good, got, err, len(l.asked))
				}
			}
		}
	}
}

func TestP1301OfAsksFromTheLastIndexDown(t *testing.T) {
	for n := range 50 {
		l := list{numbers: make([]uint64, n)}
		if _, err := shuffled(n, l.next); err != api.OK {
			t.Errorf("of %d numbers: error %d", n, err)
		}
		var want []uint64
		for i := n; i >= 2; i-- {
			want = append(want, uint64(i))
		}
		if !slices.Equal(l.asked, want) {
			t.Errorf("of %d numbers, Next was asked of %v", n, l.asked)
		}
	}
}

func TestP1301OfExchanges(t *testing.T) {
	for _, c := range []struct {
		numbers []uint64
		want    []int
	}{
		{[]uint64{1}, []int{0, 1}},
		{[]uint64{0}, []int{1, 0}},
		{[]uint64{2, 1}, []int{0, 1, 2}},
		{[]uint64{2, 0}, []int{1, 0, 2}},
		{[]uint64{1, 1}, []int{0, 2, 1}},
		{[]uint64{1, 0}, []int{2, 0, 1}},
		{[]uint64{0, 1}, []int{2, 1, 0}},
		{[]uint64{0, 0}, []int{1, 2, 0}},
		{[]uint64{4, 3, 2, 1}, []int{0, 1, 2, 3, 4}},
		{[]uint64{0, 0, 0, 0}, []int{1, 2, 3, 4, 0}},
		{[]uint64{0, 1, 2, 0}, []int{3, 4, 2, 1, 0}},
	} {
		l := list{numbers: c.numbers}
		if got, err := shuffled(len(c.want), l.next); !slices.Equal(got, c.want) || err != api.OK {
			t.Errorf("with the numbers %v: %v, %d, want %v", c.numbers, got, err, c.want)
		}
	}
}

func TestP1301OfNumbersOutsideTheLimitsAsksNothing(t *testing.T) {
	for _, n := range []int{math.MinInt, -1, api.MaxBatch + 1, math.MaxInt} {
		l := list{last: api.ErrDraw}
		if got, err := shuffled(n, l.next); len(got) != 0 || err != api.ErrArg || len(l.asked) != 0 {
			t.Errorf("of %d numbers: %v, %d, of %d asked", n, got, err, len(l.asked))
		}
	}
}
