package chains_test

import (
	"crypto/sha256"
	"fmt"
	"math"
	"slices"
	"testing"

	"courierbag/api"
	"courierbag/beacon"
	"courierbag/chains"
	"courierbag/permute"
)

// upward has the bytes 0 to 31.
func upward() api.Key {
	var k api.Key
	for i := range k {
		k[i] = byte(i)
	}
	return k
}

// sampleKey has bytes that no other number has.
func sampleKey(i int) api.Key { return sha256.Sum256(fmt.Append(nil, "sample ", i)) }

// expected has the servers of a chain as the chapter has them.
func expected(t *testing.T, seed api.Key, servers, chain, k int) []int {
	t.Helper()
	p, err := permute.Of(servers, beacon.New(seed, fmt.Sprintf("chain %d", chain)))
	if err != api.OK {
		t.Fatalf("permute.Of(%d) has the error %d", servers, err)
	}
	return p[:k]
}

// checkOne sees what One returns.
func checkOne(t *testing.T, seed api.Key, servers, chain, k int) []int {
	t.Helper()
	got, err := chains.One(seed, servers, chain, k)
	want := expected(t, seed, servers, chain, k)
	if !slices.Equal(got, want) || err != api.OK {
		t.Fatalf("One(%d, %d, %d) = %v, %d, want %v", servers, chain, k, got, err, want)
	}
	return got
}

// rejectOne sees that One returns nothing, whatever the seed is.
func rejectOne(t *testing.T, servers, chain, k int) {
	t.Helper()
	for _, seed := range []api.Key{{}, upward()} {
		if got, err := chains.One(seed, servers, chain, k); len(got) != 0 || err != api.ErrArg {
			t.Errorf("One(%d, %d, %d) = %v, %d", servers, chain, k, got, err)
		}
	}
}

// chainNumbers has numbers of one digit and of as many as there can be, beside those
// at which a digit or a bit is added.
func chainNumbers() []int {
	l := []int{0, 1, 2, 5, 7, 12, 123, 1 << 53, 1<<53 + 1, 123456789, math.MaxInt - 1, math.MaxInt}
	for tens := 10; tens <= math.MaxInt/10; tens *= 10 {
		l = append(l, tens-1, tens, tens+1)
	}
	for _, shift := range []int{7, 8, 15, 16, 20, 31, 32, 62} {
		l = append(l, 1<<shift-1, 1<<shift, 1<<shift+1)
	}
	return l
}

// badServers, badHops and badChains are outside the limits: just outside, at the least
// and the greatest int, and within the limits if they are cut to fewer bits.
func badServers() []int {
	return []int{0, -1, -2, -api.MaxServers, api.MaxServers + 1, api.MaxServers + 2, 1 << 16, 1<<16 + 5, api.MaxChains,
		1<<32 + 5, -1<<32 + 5, math.MinInt32, math.MaxInt32, math.MinInt, math.MinInt + 5, math.MaxInt - 1, math.MaxInt}
}

func badHops() []int {
	return []int{0, -1, -2, -api.MaxHops, api.MaxHops + 1, api.MaxHops + 2, 100, api.MaxServers, api.MaxServers + 1,
		1<<8 + 3, -1<<8 + 3, 1<<32 + 3, -1<<32 + 3, math.MinInt, math.MinInt + 3, math.MaxInt - 1, math.MaxInt}
}

func badChains() []int {
	return []int{-1, -2, -10, -1000, -1 << 31, -1 << 32, -1<<32 + 3, -1<<53 - 1, math.MinInt, math.MinInt + 1}
}

// These chains were computed apart from any Go program.
func TestP1401OneFixedNumbers(t *testing.T) {
	for _, c := range []struct {
		servers, chain int
		zero, upward   []int
	}{
		{1, 0, []int{0}, []int{0}},
		{2, 0, []int{0}, []int{1}},
		{2, 1, []int{0, 1}, []int{1, 0}},
		{3, 0, []int{0, 1, 2}, []int{0, 1, 2}},
		{5, 0, []int{4, 1, 2}, []int{4, 2, 0}},
		{5, 1, []int{0, 2, 4}, []int{3, 1, 4}},
		{5, 4, []int{4, 2, 3, 1, 0}, []int{4, 3, 0, 1, 2}},
		{10, 7, []int{3, 6, 8, 1, 5, 2, 9, 7, 4, 0}, []int{7, 9, 6, 2, 1, 4, 5, 3, 8, 0}},
		{10, 10, []int{7, 1, 8, 4, 3, 5, 2, 6, 9, 0}, []int{3, 2, 0, 7, 4, 8, 6, 9, 1, 5}},
		{10, 100, []int{3, 7, 2, 0}, []int{8, 9, 4, 3}},
		{20, 12, []int{18, 17, 4, 11, 19, 9, 12, 1, 13, 14, 15, 6, 0, 5, 16, 3, 2, 7, 10, 8},
			[]int{13, 14, 0, 8, 19, 12, 16, 9, 18, 1, 10, 6, 17, 11, 4, 3, 5, 2, 7, 15}},
		{21, 12, []int{5, 0, 10, 14, 12, 13, 17, 1, 2, 9, 6, 19, 8, 16, 15, 11, 3, 7, 18, 20},
			[]int{20, 4, 15, 0, 11, 12, 3, 13, 19, 1, 16, 9, 2, 17, 10, 14, 7, 5, 6, 8}},
		{100, 9, []int{82, 32, 85, 88, 60}, []int{36, 1, 66, 0, 71}},
		{1000, 0, []int{744}, []int{714}},
		{1000, 0, []int{744, 679, 635, 319, 479, 634, 796, 398, 390, 975, 301, 805, 231, 576, 275, 448, 783, 824, 553, 68},
			[]int{714, 469, 93, 132, 790, 897, 772, 211, 464, 146, 13, 949, 3, 830, 650, 615, 454, 907, 486, 402}},
		{1000, 999, []int{682, 416, 189, 762, 757, 983, 341, 92, 911, 142, 926, 289, 266, 571, 281, 293, 817, 354, 835, 311},
			[]int{770, 31, 159, 582, 474, 166, 773, 373, 858, 221, 353, 565, 213, 215, 670, 629, 58, 256, 87, 792}},
		{1000, 123456789, []int{398, 343, 209, 523, 648, 888, 146}, []int{91, 236, 113, 600, 713, 26, 722}},
		{1000, math.MaxInt, []int{453, 258, 47, 4, 585, 737, 155, 982, 125, 536, 923, 926, 32, 653, 325, 903, 671, 54, 383, 87},
			[]int{948, 951, 400, 83, 653, 440, 39, 806, 453, 719, 162, 543, 547, 927, 406, 133, 202, 646, 893, 878}},
		{7, math.MaxInt - 1, []int{6, 5, 2, 1, 4, 3, 0}, []int{2, 0, 6, 5, 4, 3, 1}},
		{7, 1 << 32, []int{4, 6, 5, 3, 0, 2, 1}, []int{6, 2, 1, 5, 0, 3, 4}},
		{7, 1 << 31, []int{4, 1, 5, 6, 3, 2, 0}, []int{5, 2, 0, 1, 4, 3, 6}},
		{7, 1<<53 + 1, []int{0, 3, 2, 6, 4, 5, 1}, []int{2, 4, 0, 1, 6, 5, 3}},
	} {
		k := len(c.zero)
		if got, err := chains.One(api.Key{}, c.servers, c.chain, k); !slices.Equal(got, c.zero) || err != api.OK {
			t.Errorf("One(zero, %d, %d, %d) = %v, %d, want %v", c.servers, c.chain, k, got, err, c.zero)
		}
		if got, err := chains.One(upward(), c.servers, c.chain, k); !slices.Equal(got, c.upward) || err != api.OK {
			t.Errorf("One(upward, %d, %d, %d) = %v, %d, want %v", c.servers, c.chain, k, got, err, c.upward)
		}
	}
}

// Every number of servers, with few hops, as many as there can be, and those between.
func TestP1401OneOfEveryServers(t *testing.T) {
	for servers := 1; servers <= api.MaxServers; servers++ {
		most := min(servers, api.MaxHops)
		for _, k := range []int{1, (most + 1) / 2, most} {
			checkOne(t, sampleKey(servers), servers, servers%7, k)
		}
	}
}

func TestP1401OneOfEveryHops(t *testing.T) {
	for _, servers := range []int{1, 2, 3, 19, 20, 21, 64, 999, 1000} {
		for k := 1; k <= min(servers, api.MaxHops); k++ {
			got := checkOne(t, upward(), servers, 3, k)
			if len(got) != k {
				t.Errorf("One(%d, 3, %d) has %d servers", servers, k, len(got))
			}
		}
	}
}

// With fewer hops, a chain has the first ones of those that it has with more.
func TestP1401OneBeginsAlikeWithMoreHops(t *testing.T) {
	for chain := range 50 {
		all := checkOne(t, upward(), 30, chain, api.MaxHops)
		for k := 1; k <= api.MaxHops; k++ {
			if got, _ := chains.One(upward(), 30, chain, k); !slices.Equal(got, all[:k]) {
				t.Errorf("One(30, %d, %d) = %v, want %v", chain, k, got, all[:k])
			}
		}
	}
}

func TestP1401OneOfManyChains(t *testing.T) {
	for chain := range 2000 {
		checkOne(t, sampleKey(1), 9, chain, 9)
	}
	for i, chain := range chainNumbers() {
		checkOne(t, sampleKey(i), 12, chain, 12)
		checkOne(t, api.Key{}, api.MaxServers, chain, api.MaxHops)
		checkOne(t, upward(), 1, chain, 1)
	}
}

func TestP1401OneHasDifferentServers(t *testing.T) {
	for chain := range 100 {
		for _, servers := range []int{20, 25, 100, 1000} {
			got := checkOne(t, sampleKey(chain), servers, chain, api.MaxHops)
			sorted := slices.Sorted(slices.Values(got))
			if len(slices.Compact(sorted)) != api.MaxHops || sorted[0] < 0 || sorted[len(sorted)-1] >= servers {
				t.Errorf("One(%d, %d, 20) = %v", servers, chain, got)
			}
		}
	}
}

// Of as many servers as hops, all are in the chain.
func TestP1401OneOfAllServers(t *testing.T) {
	for k := 1; k <= api.MaxHops; k++ {
		if got := checkOne(t, upward(), k, 8, k); !permute.Right(got) {
			t.Errorf("One(%d, 8, %d) = %v", k, k, got)
		}
	}
}

// Every bit of the seed and every chain's number makes a difference.
func TestP1401OneOfEverySeedAndChain(t *testing.T) {
	seen := map[string]string{}
	note := func(what string, seed api.Key, chain int) {
		key := fmt.Sprint(checkOne(t, seed, api.MaxServers, chain, api.MaxHops))
		if other, ok := seen[key]; ok {
			t.Errorf("%s: the chain of %s", what, other)
		}
		seen[key] = what
	}
	note("zero", api.Key{}, 0)
	for bit := range 256 {
		var seed api.Key
		seed[bit/8] = 1 << (bit % 8)
		note(fmt.Sprint("bit ", bit), seed, 0)
	}
	for chain := range 256 {
		note(fmt.Sprint("chain ", chain), upward(), chain)
	}
}

// Each server is at each place of a chain nearly as often as another.
func TestP1401OneTakesEveryServer(t *testing.T) {
	const servers, places, count = 7, 3, 7000
	var times [places][servers]int
	for chain := range count {
		for place, server := range checkOne(t, upward(), servers, chain, places) {
			times[place][server]++
		}
	}
	for place := range times {
		for server, n := range times[place] {
			if n < 850 || n > 1150 {
				t.Errorf("server %d is at place %d of %d chains of %d", server, place, n, count)
			}
		}
	}
}

func TestP1401OneOfBadServers(t *testing.T) {
	for _, servers := range badServers() {
		for _, chain := range []int{0, 1, 1000, math.MaxInt} {
			for _, k := range []int{1, 2, api.MaxHops} {
				rejectOne(t, servers, chain, k)
			}
		}
	}
}

func TestP1401OneOfBadHops(t *testing.T) {
	for _, k := range badHops() {
		for _, servers := range []int{1, 2, api.MaxHops, api.MaxHops + 1, 100, api.MaxServers} {
			for _, chain := range []int{0, 1, math.MaxInt} {
				rejectOne(t, servers, chain, k)
			}
		}
	}
}

// Of fewer servers than hops, there is no chain, however near they are.
func TestP1401OneOfMoreHopsThanServers(t *testing.T) {
	for servers := 1; servers < api.MaxHops+3; servers++ {
		for k := servers + 1; k < api.MaxHops+4; k++ {
			rejectOne(t, servers, 0, k)
			rejectOne(t, servers, 12, k)
		}
	}
}

func TestP1401OneOfBadChains(t *testing.T) {
	for _, chain := range badChains() {
		for _, servers := range []int{1, 5, api.MaxHops, api.MaxServers} {
			for _, k := range []int{1, min(servers, api.MaxHops)} {
				rejectOne(t, servers, chain, k)
			}
		}
	}
}

func TestP1401OneOfSeveralBadArguments(t *testing.T) {
	for _, servers := range badServers() {
		for _, k := range badHops() {
			rejectOne(t, servers, 0, k)
			for _, chain := range badChains() {
				rejectOne(t, servers, chain, k)
			}
		}
		for _, chain := range badChains() {
			rejectOne(t, servers, chain, 1)
		}
	}
	for _, k := range badHops() {
		for _, chain := range badChains() {
			rejectOne(t, api.MaxServers, chain, k)
			rejectOne(t, 1, chain, k)
		}
	}
	for _, chain := range badChains() {
		rejectOne(t, 4, chain, 5)
	}
}

func TestP1401ChapterExample(t *testing.T) {
	if got, err := chains.One(api.Key{}, 1, 0, 1); !slices.Equal(got, []int{0}) || err != api.OK {
		t.Errorf("One(1, 0, 1) = %v, %d", got, err)
	}
}
