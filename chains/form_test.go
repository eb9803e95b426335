package chains_test

import (
	"crypto/sha256"
	"encoding/binary"
	"fmt"
	"math"
	"slices"
	"testing"

	"courierbag/api"
	"courierbag/chains"
)

const maxForm = 1000

// checkForm sees what Form returns.
func checkForm(t *testing.T, seed api.Key, servers, n, k int) [][]int {
	t.Helper()
	got, err := chains.Form(seed, servers, n, k)
	if len(got) != n || err != api.OK {
		t.Fatalf("Form(%d, %d, %d) has %d chains and the error %d", servers, n, k, len(got), err)
	}
	for chain, l := range got {
		if want := expected(t, seed, servers, chain, k); !slices.Equal(l, want) {
			t.Fatalf("Form(%d, %d, %d) has %v at %d, want %v", servers, n, k, l, chain, want)
		}
		if one := checkOne(t, seed, servers, chain, k); !slices.Equal(l, one) {
			t.Fatalf("Form(%d, %d, %d) has %v at %d, and One returns %v", servers, n, k, l, chain, one)
		}
	}
	return got
}

// rejectForm sees that Form returns nothing, whatever the seed is.
func rejectForm(t *testing.T, servers, n, k int) {
	t.Helper()
	for _, seed := range []api.Key{{}, upward()} {
		if got, err := chains.Form(seed, servers, n, k); len(got) != 0 || err != api.ErrArg {
			t.Errorf("Form(%d, %d, %d) has %d chains and the error %d", servers, n, k, len(got), err)
		}
	}
}

// badCounts are outside the limits: just outside, at the least and the greatest int,
// and within the limits if they are cut to fewer bits.
func badCounts() []int {
	return []int{0, -1, -2, -maxForm, maxForm + 1, maxForm + 2, 2 * maxForm, api.MaxChains, 1 << 16, 1<<16 + 3, -1<<16 + 3,
		1<<32 + 3, -1<<32 + 3, math.MinInt32, math.MaxInt32, math.MinInt, math.MinInt + 3, math.MaxInt - 1, math.MaxInt}
}

// digestOf has the digest of the numbers of all chains, as 8 bytes each.
func digestOf(l [][]int) string {
	var b []byte
	for _, members := range l {
		for _, server := range members {
			b = binary.BigEndian.AppendUint64(b, uint64(server))
		}
	}
	return fmt.Sprintf("%x", sha256.Sum256(b))
}

// These chains were computed apart from any Go program.
func TestP1401FormFixedNumbers(t *testing.T) {
	for _, c := range []struct {
		seed    api.Key
		servers int
		want    [][]int
	}{
		{api.Key{}, 1, [][]int{{0}}},
		{api.Key{}, 5, [][]int{{4, 1, 2}, {0, 2, 4}, {4, 0, 3}, {4, 2, 3}}},
		{upward(), 6, [][]int{{0, 5, 3, 4}, {5, 3, 1, 0}, {4, 3, 1, 0}, {2, 1, 3, 5}, {0, 3, 2, 1}, {3, 4, 0, 2},
			{4, 1, 2, 3}, {1, 0, 5, 4}, {2, 5, 3, 4}}},
	} {
		got, err := chains.Form(c.seed, c.servers, len(c.want), len(c.want[0]))
		if !slices.EqualFunc(got, c.want, slices.Equal) || err != api.OK {
			t.Errorf("Form(%d, %d, %d) = %v, %d, want %v", c.servers, len(c.want), len(c.want[0]), got, err, c.want)
		}
	}
}

// The digests were computed apart from any Go program, too.
func TestP1401FormOfManyChainsFixedNumbers(t *testing.T) {
	for _, c := range []struct {
		seed       api.Key
		servers, n int
		digest     string
	}{
		{upward(), 30, 1000, "57b7b8d72efec24c9e32683c1decbc73a02d06ff5a9466609e173a98268772ec"},
		{api.Key{}, 1000, 12, "9263ef2ce4aad027e654d63d576b1e3fe4bd0fae2d9362e121ae625cb74beabb"},
	} {
		got := checkForm(t, c.seed, c.servers, c.n, api.MaxHops)
		if digest := digestOf(got); digest != c.digest {
			t.Errorf("the digest of Form(%d, %d, 20) is %s", c.servers, c.n, digest)
		}
	}
}

func TestP1401FormOfEveryCount(t *testing.T) {
	for n := 1; n <= 60; n++ {
		checkForm(t, sampleKey(n), 5+n%9, n, 1+n%5)
	}
	for _, n := range []int{99, 100, 101, 255, 256, 257, maxForm - 1, maxForm} {
		checkForm(t, upward(), 8, n, 3)
	}
}

func TestP1401FormOfEveryServersAndHops(t *testing.T) {
	for _, servers := range []int{1, 2, 3, 19, 20, 21, 500, api.MaxServers} {
		for _, k := range []int{1, 2, 3, 19, api.MaxHops} {
			if k <= servers {
				checkForm(t, sampleKey(k), servers, 4, k)
			}
		}
	}
}

// With fewer chains, there are the first ones of those that there are with more.
func TestP1401FormBeginsAlikeWithMoreChains(t *testing.T) {
	all := checkForm(t, upward(), 11, maxForm, 4)
	for _, n := range []int{1, 2, 10, 500, maxForm - 1} {
		if got := checkForm(t, upward(), 11, n, 4); !slices.EqualFunc(got, all[:n], slices.Equal) {
			t.Errorf("Form(11, %d, 4) = %v", n, got)
		}
	}
}

func TestP1401FormOfOneServer(t *testing.T) {
	for _, l := range checkForm(t, upward(), 1, maxForm, 1) {
		if !slices.Equal(l, []int{0}) {
			t.Fatalf("a chain of one server is %v", l)
		}
	}
}

func TestP1401FormOfBadCounts(t *testing.T) {
	for _, n := range badCounts() {
		for _, servers := range []int{1, 6, api.MaxHops, api.MaxServers} {
			for _, k := range []int{1, min(servers, api.MaxHops)} {
				rejectForm(t, servers, n, k)
			}
		}
	}
}

func TestP1401FormOfBadServersAndHops(t *testing.T) {
	for _, n := range []int{1, 2, 100, maxForm} {
		for _, servers := range badServers() {
			rejectForm(t, servers, n, 1)
			rejectForm(t, servers, n, api.MaxHops)
		}
		for _, k := range badHops() {
			rejectForm(t, 1, n, k)
			rejectForm(t, api.MaxHops, n, k)
			rejectForm(t, api.MaxServers, n, k)
		}
		for servers := 1; servers < api.MaxHops; servers++ {
			rejectForm(t, servers, n, servers+1)
			rejectForm(t, servers, n, api.MaxHops)
		}
	}
}

func TestP1401FormOfSeveralBadArguments(t *testing.T) {
	for _, n := range badCounts() {
		for _, servers := range badServers() {
			rejectForm(t, servers, n, 1)
			for _, k := range badHops() {
				rejectForm(t, servers, n, k)
			}
		}
		for _, k := range badHops() {
			rejectForm(t, api.MaxServers, n, k)
		}
		rejectForm(t, 4, n, 5)
	}
	for _, servers := range badServers() {
		for _, k := range badHops() {
			rejectForm(t, servers, maxForm, k)
		}
	}
}
