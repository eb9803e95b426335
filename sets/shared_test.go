package sets_test

import (
	"slices"
	"testing"

	"courierbag/api"
	"courierbag/sets"
)

// checkShared sees that Shared returns that chain, in either order.
func checkShared(t *testing.T, a, b, n, want int) {
	t.Helper()
	for _, c := range [][2]int{{a, b}, {b, a}} {
		if got, err := sets.Shared(c[0], c[1], n); got != want || err != api.OK {
			t.Fatalf("Shared(%d, %d, %d) = %d, %d, want %d", c[0], c[1], n, got, err, want)
		}
	}
}

// rejectShared sees that Shared returns nothing, in either order.
func rejectShared(t *testing.T, a, b, n int) {
	t.Helper()
	for _, c := range [][2]int{{a, b}, {b, a}} {
		if got, err := sets.Shared(c[0], c[1], n); got != 0 || err != api.ErrArg {
			t.Errorf("Shared(%d, %d, %d) = %d, %d", c[0], c[1], n, got, err)
		}
	}
}

// These chains were computed apart from any Go program.
func TestP1502SharedFixedNumbers(t *testing.T) {
	for _, c := range []struct{ a, b, n, want int }{
		{0, 1, 1, 0}, {0, 1, 2, 0}, {0, 2, 2, 1}, {1, 2, 2, 0}, {0, 1, 3, 0}, {0, 2, 3, 1}, {1, 2, 3, 2}, {1, 3, 4, 0}, {2, 3, 4, 1},
		{0, 4, 7, 6}, {1, 4, 7, 0}, {2, 4, 7, 1}, {3, 4, 7, 2}, {5, 6, 20, 0}, {6, 7, 22, 5}, {10, 45, 1000, 0}, {44, 45, 1000, 34},
		{0, 1448, 1 << 20, 1047628}, {1447, 1448, 1 << 20, 1049075 - 1<<20},
	} {
		checkShared(t, c.a, c.b, c.n, c.want)
	}
}

func TestP1502SharedOfEqualGroupsFixedNumbers(t *testing.T) {
	for _, c := range []struct{ group, n, want int }{
		{0, 1, 0}, {1, 1, 0}, {0, 2, 0}, {1, 2, 0}, {2, 2, 1}, {0, 3, 0}, {1, 3, 0}, {2, 3, 1}, {0, 4, 0}, {1, 4, 0}, {2, 4, 1}, {3, 4, 3},
		{0, 7, 0}, {1, 7, 0}, {2, 7, 1}, {3, 7, 3}, {4, 7, 6}, {0, 100, 0}, {1, 100, 0}, {2, 100, 1}, {13, 100, 78}, {14, 100, 91},
		{44, 1000, 946}, {45, 1000, 990}, {0, 1 << 20, 0}, {1, 1 << 20, 0}, {2, 1 << 20, 1}, {1447, 1 << 20, 1046181},
		{1448, 1 << 20, 1047628},
	} {
		checkShared(t, c.group, c.group, c.n, c.want)
	}
}

// Of different groups, the place of one in the set of the other has the shared chain.
func TestP1502SharedOfEveryTwoGroups(t *testing.T) {
	for _, n := range append(manyCounts(), greatCounts()...) {
		for a, l := range expectedSets(n) {
			checkShared(t, a, a, n, l[0])
			for b := range a {
				checkShared(t, a, b, n, l[b])
			}
		}
	}
}

func TestP1503AnyTwoSetsContainTheSharedChain(t *testing.T) {
	for n := 1; n <= 150; n++ {
		var all [][]int
		for group := range sets.Sides(n) + 1 {
			l, _ := sets.Set(group, n)
			all = append(all, l)
		}
		for a := range all {
			for b := range all {
				chain, err := sets.Shared(a, b, n)
				if err != api.OK || !slices.Contains(all[a], chain) || !slices.Contains(all[b], chain) {
					t.Errorf("Shared(%d, %d, %d) = %d, %d, of %v and %v", a, b, n, chain, err, all[a], all[b])
				}
			}
		}
	}
}

func TestP1503AnyTwoSetsOfManyChainsContainTheSharedChain(t *testing.T) {
	for _, n := range greatCounts() {
		last := sets.Sides(n)
		for a := 0; a <= last; a += 29 {
			for b := last; b >= 0; b -= 83 {
				chain, err := sets.Shared(a, b, n)
				one, _ := sets.Set(a, n)
				other, _ := sets.Set(b, n)
				if err != api.OK || !slices.Contains(one, chain) || !slices.Contains(other, chain) {
					t.Errorf("Shared(%d, %d, %d) = %d, %d", a, b, n, chain, err)
				}
			}
		}
	}
}

func TestP1502SharedOfBadGroups(t *testing.T) {
	for _, n := range append(manyCounts(), greatCounts()...) {
		last := groupsOf(n) - 1
		for _, bad := range badGroups(n) {
			rejectShared(t, bad, bad, n)
			for _, right := range []int{0, 1, last - 1, last} {
				rejectShared(t, bad, right, n)
			}
		}
	}
}

func TestP1502SharedOfBadCounts(t *testing.T) {
	for _, n := range badCounts() {
		for _, a := range []int{0, 1, 2, 1448} {
			for _, b := range []int{0, 1, 2, 1448} {
				rejectShared(t, a, b, n)
			}
		}
	}
}

func TestP1502SharedOfSeveralBadArguments(t *testing.T) {
	for _, n := range []int{1, 2, 3, 100, api.MaxChains} {
		for _, a := range badGroups(n) {
			for _, b := range badGroups(n) {
				rejectShared(t, a, b, n)
			}
		}
	}
	for _, n := range badCounts() {
		for _, bad := range badGroups(api.MaxChains) {
			rejectShared(t, bad, bad, n)
			rejectShared(t, bad, -1-bad, n)
			rejectShared(t, bad, 0, n)
			rejectShared(t, bad, 1, n)
		}
	}
}
