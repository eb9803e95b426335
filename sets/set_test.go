package sets_test

import (
	"crypto/sha256"
	"encoding/binary"
	"fmt"
	"math"
	"slices"
	"testing"

	"courierbag/api"
	"courierbag/sets"
)

// manyCounts has valid numbers of chains: small ones, and greater ones beside those at
// which a group is added.
func manyCounts() []int {
	var l []int
	for n := 1; n <= 240; n++ {
		l = append(l, n)
	}
	return append(l, 256, 500, 999, 1000, 1023, 1034, 1035, 1036, 1037, 4095, 4096, 4097)
}

// greatCounts has the greatest numbers, and those at which the last group is added.
func greatCounts() []int {
	return []int{1047628, 1047629, api.MaxChains - 1, api.MaxChains}
}

// groupsOf counts how many groups there are: they have n pairs or more, and with one
// group less they would not, but there are two at least.
func groupsOf(n int) int {
	groups := 2
	for pairs := 1; pairs < n; groups++ {
		pairs += groups
	}
	return groups
}

// expectedSets has the sets of all groups: the pairs are counted by the greater group,
// and each one's chain comes into the sets of both groups.
func expectedSets(n int) [][]int {
	l := make([][]int, groupsOf(n))
	for group := range l {
		l[group] = make([]int, len(l)-1)
	}
	number := 0
	for greater := range l {
		for smaller := range greater {
			l[smaller][greater-1] = number % n
			l[greater][smaller] = number % n
			number++
		}
	}
	return l
}

// checkSet sees what Set returns.
func checkSet(t *testing.T, group, n int, want []int) []int {
	t.Helper()
	got, err := sets.Set(group, n)
	if !slices.Equal(got, want) || err != api.OK {
		t.Fatalf("Set(%d, %d) = %.200s, %d, want %.200s", group, n, fmt.Sprint(got), err, fmt.Sprint(want))
	}
	return got
}

// rejectSet sees that Set returns nothing.
func rejectSet(t *testing.T, group, n int) {
	t.Helper()
	if got, err := sets.Set(group, n); len(got) != 0 || err != api.ErrArg {
		t.Errorf("Set(%d, %d) = %.200s, %d", group, n, fmt.Sprint(got), err)
	}
}

// badGroups are no group's number with n chains: just outside, at the least and the
// greatest int, and a group's number if they are cut to fewer bits.
func badGroups(n int) []int {
	last := groupsOf(n) - 1
	return []int{last + 1, last + 2, 2*last + 1, -1, -2, -last, -last - 1, 1<<16 + last, 1 << 20, 1<<20 + 1, 1<<32 + last, -1<<32 + last,
		math.MinInt32, math.MaxInt32, math.MinInt, math.MinInt + 1, math.MinInt + last, math.MaxInt - 1, math.MaxInt}
}

// These sets were computed apart from any Go program.
func TestP1502SetFixedNumbers(t *testing.T) {
	for n, want := range map[int][][]int{
		1:  {{0}, {0}},
		2:  {{0, 1}, {0, 0}, {1, 0}},
		3:  {{0, 1}, {0, 2}, {1, 2}},
		4:  {{0, 1, 3}, {0, 2, 0}, {1, 2, 1}, {3, 0, 1}},
		5:  {{0, 1, 3}, {0, 2, 4}, {1, 2, 0}, {3, 4, 0}},
		6:  {{0, 1, 3}, {0, 2, 4}, {1, 2, 5}, {3, 4, 5}},
		7:  {{0, 1, 3, 6}, {0, 2, 4, 0}, {1, 2, 5, 1}, {3, 4, 5, 2}, {6, 0, 1, 2}},
		9:  {{0, 1, 3, 6}, {0, 2, 4, 7}, {1, 2, 5, 8}, {3, 4, 5, 0}, {6, 7, 8, 0}},
		10: {{0, 1, 3, 6}, {0, 2, 4, 7}, {1, 2, 5, 8}, {3, 4, 5, 9}, {6, 7, 8, 9}},
		11: {{0, 1, 3, 6, 10}, {0, 2, 4, 7, 0}, {1, 2, 5, 8, 1}, {3, 4, 5, 9, 2}, {6, 7, 8, 9, 3}, {10, 0, 1, 2, 3}},
		20: {{0, 1, 3, 6, 10, 15}, {0, 2, 4, 7, 11, 16}, {1, 2, 5, 8, 12, 17}, {3, 4, 5, 9, 13, 18}, {6, 7, 8, 9, 14, 19},
			{10, 11, 12, 13, 14, 0}, {15, 16, 17, 18, 19, 0}},
		22: {{0, 1, 3, 6, 10, 15, 21}, {0, 2, 4, 7, 11, 16, 0}, {1, 2, 5, 8, 12, 17, 1}, {3, 4, 5, 9, 13, 18, 2},
			{6, 7, 8, 9, 14, 19, 3}, {10, 11, 12, 13, 14, 20, 4}, {15, 16, 17, 18, 19, 20, 5}, {21, 0, 1, 2, 3, 4, 5}},
	} {
		for group, l := range want {
			checkSet(t, group, n, l)
		}
		rejectSet(t, len(want), n)
	}
}

// The digests, of all sets' chains as 8 bytes each, were computed apart from any Go
// program, too.
func TestP1502SetsOfManyChainsFixedNumbers(t *testing.T) {
	for n, want := range map[int]string{
		100:               "fa1c6367438202f31379c06524b3c8781c06f1af6767642b543b9e3fcbde3284",
		1000:              "2ec3aab2f3b404cb619d0bcda996aba1c1e1508867eb2d7d7b791aec5d57595b",
		1035:              "d758ee819707bdead4f4747448d6befdeb164e0aa91ce86dc96f086fbfa944bf",
		1036:              "4726dc6d89d0d3fe82bc685f4dfe35431eb05e2bf6ff062dbf330b4c91684370",
		65536:             "55a2c3f67db21ae99a121d2de45f5f315c8ea03b1dbd6d88b91c96e468440489",
		1047628:           "8439f4da66b09c113482079ddbaa3d8244d03716efe09c6c156cede1426db22d",
		1047629:           "e28cfa6d5ebf1a674f6693182e61ed3203acec42875013d94148b5d98d3df07e",
		api.MaxChains - 1: "25e39b274de4897767ba096735f5c807e1e3406b82521ca784a02dd46d50ec1a",
		api.MaxChains:     "253e85e1269a30daf6d0ebb51f0b951ef88fb6ed64de6de96d03ba0301e5851e",
	} {
		var b []byte
		for group := range groupsOf(n) {
			l, _ := sets.Set(group, n)
			for _, chain := range l {
				b = binary.BigEndian.AppendUint64(b, uint64(chain))
			}
		}
		if digest := fmt.Sprintf("%x", sha256.Sum256(b)); digest != want {
			t.Errorf("the digest of the sets of %d chains is %s", n, digest)
		}
	}
}

func TestP1502SetOfEveryGroup(t *testing.T) {
	for _, n := range append(manyCounts(), greatCounts()...) {
		for group, want := range expectedSets(n) {
			checkSet(t, group, n, want)
		}
	}
}

// The chapter's other words for a set: what Pair returns for each other group.
func TestP1502SetIsOfPairs(t *testing.T) {
	for _, n := range manyCounts() {
		for group := range sets.Sides(n) + 1 {
			var want []int
			for other := range sets.Sides(n) + 1 {
				if other == group {
					continue
				}
				number, err := sets.Pair(group, other)
				if err != api.OK {
					t.Fatalf("Pair(%d, %d) has the error %d", group, other, err)
				}
				want = append(want, number%n)
			}
			checkSet(t, group, n, want)
		}
	}
}

func TestP1503SetsHaveAsManyElementsAsSides(t *testing.T) {
	for n := 1; n <= 2000; n++ {
		for group := range sets.Sides(n) + 1 {
			if l, err := sets.Set(group, n); len(l) != sets.Sides(n) || err != api.OK {
				t.Fatalf("Set(%d, %d) has %d elements and the error %d", group, n, len(l), err)
			}
		}
	}
	for n := 1; n < api.MaxChains; n += 997 {
		for _, group := range []int{0, 1, groupsOf(n) - 1} {
			if l, err := sets.Set(group, n); len(l) != groupsOf(n)-1 || err != api.OK {
				t.Fatalf("Set(%d, %d) has %d elements and the error %d", group, n, len(l), err)
			}
		}
	}
}

func TestP1502SetOfBadGroups(t *testing.T) {
	for _, n := range append(manyCounts(), greatCounts()...) {
		for _, group := range badGroups(n) {
			rejectSet(t, group, n)
		}
	}
	for n := 1; n < api.MaxChains; n += 997 {
		rejectSet(t, groupsOf(n), n)
		rejectSet(t, -1, n)
	}
}

func TestP1502SetOfBadCounts(t *testing.T) {
	for _, n := range badCounts() {
		for _, group := range []int{0, 1, 2, 3, 1447, 1448} {
			rejectSet(t, group, n)
		}
	}
}

func TestP1502SetOfSeveralBadArguments(t *testing.T) {
	for _, n := range badCounts() {
		for _, group := range badGroups(1) {
			rejectSet(t, group, n)
		}
		for _, group := range badGroups(api.MaxChains) {
			rejectSet(t, group, n)
		}
	}
}
