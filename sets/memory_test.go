package sets_test

import (
	"fmt"
	"math"
	"slices"
	"sync"
	"testing"

	"courierbag/api"
	"courierbag/sets"
)

// fill writes over all of a slice, also behind its length; one that shares memory with
// it shows that.
func fill(l []int) {
	l = l[:cap(l)]
	for i := range l {
		l[i] = -7
	}
}

func TestP1503SetIsNew(t *testing.T) {
	for _, n := range []int{1, 2, 3, 4, 6, 7, 28, 29, 36, 37, 100, 1000, 65536, api.MaxChains} {
		want := expectedSets(n)
		for _, group := range []int{0, 1, len(want) - 1} {
			a, b := checkSet(t, group, n, want[group]), checkSet(t, group, n, want[group])
			other := checkSet(t, 1-group%2, n, want[1-group%2])
			fill(a)
			if !slices.Equal(b, want[group]) || !slices.Equal(other, want[1-group%2]) {
				t.Errorf("one Set(%d, %d) was changed with another one", group, n)
			}
			fill(b)
			fill(other)
			checkSet(t, group, n, want[group])
			checkShared(t, group, group, n, want[group][0])
		}
	}
}

// What is appended to one set shows in no other one, in either order.
func TestP1503AppendedToASet(t *testing.T) {
	want := expectedSets(100)
	all := make([][]int, len(want))
	for group := range all {
		all[group] = checkSet(t, group, 100, want[group])
	}
	for _, group := range []int{7, 14, 0, 6, 8, 13, 1} {
		longer := all[group]
		for i := range 60 {
			longer = append(longer, -i)
		}
		if !slices.Equal(longer[:len(want[group])], want[group]) || !slices.EqualFunc(all, want, slices.Equal) {
			t.Fatalf("what was appended to the set of group %d has changed a set", group)
		}
	}
	a, b := checkSet(t, 3, 100, want[3]), checkSet(t, 3, 100, want[3])
	a, b = append(a, 1), append(b, 2)
	if a[len(a)-1] != 1 || b[len(b)-1] != 2 {
		t.Error("what was appended to one set shows in another one")
	}
}

func TestP1503NameIsNeitherModifiedNorKept(t *testing.T) {
	names := []api.Key{sampleKey(1), sampleKey(2), sampleKey(3)}
	first := checkGroup(t, names[1], api.MaxChains)
	for i, name := range names {
		if name != sampleKey(i+1) {
			t.Errorf("name %d was changed", i)
		}
	}
	names[1][0]++
	if second := checkGroup(t, names[1], api.MaxChains); second == first {
		t.Errorf("another name has the group %d, too", second)
	}
	names[1][0]--
	checkGroup(t, names[1], api.MaxChains)
}

// An error leaves nothing behind that a later call could observe.
func TestP1503ErrorsHaveNoEffect(t *testing.T) {
	want := expectedSets(100)
	for i, n := range badCounts() {
		group := i % len(want)
		other := (group + 3) % len(want)
		chain := pairNumber(group, other) % 100
		for range 2 {
			rejectSet(t, group, n)
			rejectSet(t, len(want)+i, 100)
			checkSet(t, group, 100, want[group])
			rejectShared(t, group, other, n)
			rejectShared(t, group, -1-i, 100)
			checkShared(t, group, other, 100, chain)
			rejectPair(t, group, group)
			checkPair(t, group, other, pairNumber(group, other))
			if _, err := sets.Group(sampleKey(i), n); err != api.ErrArg {
				t.Errorf("Group with %d chains has the error %d", n, err)
			}
			checkGroup(t, sampleKey(i), 100)
			checkSides(t, n, 0)
			checkSides(t, 100, 14)
		}
	}
}

// ask makes calls that a number determines, some of them with arguments that are
// rejected, and writes down what they return.
func ask(i int) string {
	number, pairErr := sets.Pair(i%9, i*i%31)
	l, setErr := sets.Set(i%7, i%50)
	shared, sharedErr := sets.Shared(i%5, i%4, i%30)
	group, groupErr := sets.Group(sampleKey(i%7), i%40)
	none, noErr := sets.Set(-i, i)
	far, farErr := sets.Pair(math.MaxInt-i, i)
	return fmt.Sprint(sets.Root(i*i*i), sets.Sides(i*3), number, pairErr, l, setErr, shared, sharedErr, group, groupErr, none, noErr, far, farErr)
}

// A second run in another order would show one call's trace in the next.
func TestP1503ResultsDependOnArgumentsOnly(t *testing.T) {
	var first [2000]string
	for i := range first {
		first[i] = ask(i)
	}
	for i := len(first) - 1; i >= 0; i-- {
		ask(i + 1)
		if again := ask(i); again != first[i] {
			t.Errorf("%d: %s, then %s", i, first[i], again)
		}
	}
}

func TestP1503CallsAtOnce(t *testing.T) {
	var want [300]string
	for i := range want {
		want[i] = ask(i)
	}
	var wait sync.WaitGroup
	for start := range 16 {
		wait.Go(func() {
			for i := range want {
				n := (i + 17*start) % len(want)
				if got := ask(n); got != want[n] {
					t.Errorf("%d beside other calls: %s, want %s", n, got, want[n])
				}
			}
		})
	}
	wait.Wait()
}
