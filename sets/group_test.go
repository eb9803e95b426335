package sets_test

import (
	"crypto/sha256"
	"encoding/binary"
	"fmt"
	"testing"

	"courierbag/api"
	"courierbag/sets"
)

// upward has the bytes 0 to 31.
func upward() api.Key {
	var k api.Key
	for i := range k {
		k[i] = byte(i)
	}
	return k
}

// downward has the bytes 255 to 224.
func downward() api.Key {
	var k api.Key
	for i := range k {
		k[i] = byte(255 - i)
	}
	return k
}

// ones has only bits 1.
func ones() api.Key {
	var k api.Key
	for i := range k {
		k[i] = 0xff
	}
	return k
}

// sampleKey has bytes that no other number has.
func sampleKey(i int) api.Key { return sha256.Sum256(fmt.Append(nil, "sample ", i)) }

// numberOf is what determines a user's group, by Go's own library.
func numberOf(name api.Key) uint64 {
	var b []byte
	for _, part := range [][]byte{[]byte("group"), name[:]} {
		b = binary.BigEndian.AppendUint64(b, uint64(len(part)))
		b = append(b, part...)
	}
	digest := sha256.Sum256(b)
	return binary.BigEndian.Uint64(digest[:])
}

// checkGroup sees what Group returns.
func checkGroup(t *testing.T, name api.Key, n int) int {
	t.Helper()
	got, err := sets.Group(name, n)
	want := int(numberOf(name) % uint64(groupsOf(n)))
	if got != want || err != api.OK {
		t.Fatalf("Group(%x, %d) = %d, %d, want %d", name, n, got, err, want)
	}
	return got
}

// These groups were computed apart from any Go program.
func TestP1502GroupFixedNumbers(t *testing.T) {
	counts := []int{1, 2, 3, 4, 6, 7, 10, 11, 100, 1000, 65536, api.MaxChains}
	for _, c := range []struct {
		name api.Key
		want []int
	}{
		{api.Key{}, []int{1, 0, 0, 1, 1, 2, 2, 3, 12, 27, 300, 855}},
		{upward(), []int{0, 1, 1, 2, 2, 2, 2, 4, 7, 22, 202, 574}},
		{ones(), []int{1, 0, 0, 1, 1, 2, 2, 3, 12, 41, 177, 639}},
		{api.Key{31: 1}, []int{0, 0, 0, 0, 0, 3, 3, 0, 3, 6, 153, 282}},
		{api.Key{0: 1}, []int{0, 2, 2, 2, 2, 4, 4, 2, 14, 0, 344, 23}},
	} {
		for i, n := range counts {
			if got, err := sets.Group(c.name, n); got != c.want[i] || err != api.OK {
				t.Errorf("Group(%x, %d) = %d, %d, want %d", c.name, n, got, err, c.want[i])
			}
		}
	}
}

// Among so many names, there are numbers with and without a highest bit.
func TestP1502GroupOfManyNames(t *testing.T) {
	high := 0
	for i := range 2000 {
		name := sampleKey(i)
		high += int(numberOf(name) >> 63)
		for _, n := range []int{1, 2, 3, 4, 10, 11, 100, 1000, api.MaxChains} {
			checkGroup(t, name, n)
		}
	}
	if high == 0 || high == 2000 {
		t.Errorf("%d numbers have the highest bit", high)
	}
}

func TestP1502GroupWithManyCounts(t *testing.T) {
	for _, name := range []api.Key{{}, upward(), downward(), ones()} {
		for _, n := range append(manyCounts(), greatCounts()...) {
			checkGroup(t, name, n)
		}
		for n := 1; n < api.MaxChains; n += 997 {
			checkGroup(t, name, n)
		}
	}
}

// Each bit of the name counts.
func TestP1502GroupOfNamesOfOneBit(t *testing.T) {
	for bit := range 256 {
		one, all := api.Key{}, ones()
		one[bit/8] ^= 1 << (bit % 8)
		all[bit/8] ^= 1 << (bit % 8)
		for _, n := range []int{1, 100, api.MaxChains} {
			checkGroup(t, one, n)
			checkGroup(t, all, n)
		}
	}
}

// The groups of users have sets, and there is no group without users.
func TestP1502GroupsOfManyNamesAreAllGroups(t *testing.T) {
	for _, n := range []int{1, 2, 3, 4, 6, 7, 100, 105, 106} {
		users := make([]int, groupsOf(n))
		for i := range 2000 {
			group := checkGroup(t, sampleKey(i), n)
			users[group]++
			if _, err := sets.Set(group, n); err != api.OK {
				t.Errorf("Set(%d, %d) has the error %d", group, n, err)
			}
		}
		for group, count := range users {
			if count == 0 {
				t.Errorf("of %d chains, group %d has no users", n, group)
			}
		}
	}
}

func TestP1502GroupWithBadCounts(t *testing.T) {
	for _, n := range badCounts() {
		for _, name := range []api.Key{{}, upward(), downward(), ones()} {
			if got, err := sets.Group(name, n); got != 0 || err != api.ErrArg {
				t.Errorf("Group(%x, %d) = %d, %d", name, n, got, err)
			}
		}
	}
}
