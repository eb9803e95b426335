package chains_test

import (
	"fmt"
	"math"
	"slices"
	"sync"
	"testing"

	"courierbag/api"
	"courierbag/chains"
)

// fill writes over all of a slice, also behind its length; one that shares memory with
// it shows that.
func fill(l []int) {
	l = l[:cap(l)]
	for i := range l {
		l[i] = -7
	}
}

// fillAll writes over all of Form's result in the same way.
func fillAll(l [][]int) {
	for _, members := range l {
		fill(members)
	}
	l = l[:cap(l)]
	for i := range l {
		l[i] = []int{-8}
	}
}

// cloneAll has the numbers of a result in other memory.
func cloneAll(l [][]int) [][]int {
	all := make([][]int, len(l))
	for i := range l {
		all[i] = slices.Clone(l[i])
	}
	return all
}

func same(a, b [][]int) bool { return slices.EqualFunc(a, b, slices.Equal) }

func TestP1402OneIsNew(t *testing.T) {
	for _, servers := range []int{1, 2, 20, 21, 1000} {
		for _, k := range []int{1, 2, 7, 8, 9, api.MaxHops} {
			if k > servers {
				continue
			}
			want := slices.Clone(checkOne(t, upward(), servers, 4, k))
			a, b := checkOne(t, upward(), servers, 4, k), checkOne(t, upward(), servers, 4, k)
			fill(a)
			if !slices.Equal(b, want) {
				t.Errorf("one One(%d, 4, %d) was changed with another one", servers, k)
			}
			fill(b)
			checkOne(t, upward(), servers, 4, k)
			checkForm(t, upward(), servers, 5, k)
		}
	}
}

func TestP1402FormIsNew(t *testing.T) {
	for _, n := range []int{1, 2, 3, 100} {
		for _, k := range []int{1, 2, 7, 8, 9, api.MaxHops} {
			a, b := checkForm(t, upward(), 20, n, k), checkForm(t, upward(), 20, n, k)
			one := checkOne(t, upward(), 20, 0, k)
			want := cloneAll(b)
			fillAll(a)
			if !same(b, want) || !slices.Equal(one, want[0]) {
				t.Errorf("one Form(20, %d, %d) was changed with another one", n, k)
			}
			fillAll(b)
			checkForm(t, upward(), 20, n, k)
			checkOne(t, upward(), 20, 0, k)
		}
	}
}

// No chain of a result shares memory with another one, also not behind its length, and
// also not where both have the same servers.
func TestP1402ChainsOfAFormAreSeparate(t *testing.T) {
	for _, c := range []struct{ servers, n, k int }{{1, 40, 1}, {2, 40, 2}, {3, 40, 2}, {20, 40, 20}, {100, 40, 7}, {1000, 10, 20}} {
		l := checkForm(t, upward(), c.servers, c.n, c.k)
		want := cloneAll(l)
		for chain := range l {
			fill(l[chain])
			for i := range l {
				if i > chain && !slices.Equal(l[i], want[i]) {
					t.Fatalf("Form(%d, %d, %d): chain %d was changed with chain %d", c.servers, c.n, c.k, i, chain)
				}
			}
		}
	}
}

// What is appended to one chain shows in no other one, in either order.
func TestP1402AppendedToAChain(t *testing.T) {
	l := checkForm(t, upward(), 50, 30, 5)
	want := cloneAll(l)
	for chain := len(l) - 1; chain >= 0; chain-- {
		longer := l[chain]
		for i := range 60 {
			longer = append(longer, -i)
		}
		if !slices.Equal(longer[:5], want[chain]) || !same(l, want) {
			t.Fatalf("what was appended to chain %d has changed a chain", chain)
		}
	}
	a, b := checkForm(t, upward(), 50, 30, 5), checkForm(t, upward(), 50, 30, 5)
	a, b = append(a, []int{1}), append(b, []int{2})
	if !slices.Equal(a[30], []int{1}) || !slices.Equal(b[30], []int{2}) {
		t.Error("what was appended to one result shows in another one")
	}
}

func TestP1402SeedIsNeitherModifiedNorKept(t *testing.T) {
	seeds := []api.Key{sampleKey(1), sampleKey(2), sampleKey(3)}
	one := checkOne(t, seeds[1], 30, 2, 6)
	all := checkForm(t, seeds[1], 30, 8, 6)
	for i, seed := range seeds {
		if seed != sampleKey(i+1) {
			t.Errorf("seed %d was changed", i)
		}
	}
	wantOne, wantAll := slices.Clone(one), cloneAll(all)
	seeds[1][0]++
	if checkOne(t, seeds[1], 30, 2, 6); !slices.Equal(one, wantOne) || !same(all, wantAll) {
		t.Error("a result was changed with its seed")
	}
}

// An error leaves nothing behind that a later call could observe.
func TestP1402ErrorsHaveNoEffect(t *testing.T) {
	for i, servers := range badServers() {
		rejectOne(t, servers, i, 1)
		checkOne(t, upward(), 9, i, 5)
		rejectForm(t, servers, 5, 1)
		checkForm(t, upward(), 9, 5, 5)
		rejectOne(t, 9, -1-i, 5)
		rejectForm(t, 9, 1001+i, 5)
		rejectForm(t, 9, 5, 10+i)
		checkForm(t, upward(), 9, 5, 5)
		checkOne(t, upward(), 9, i, 5)
	}
}

// ask makes calls that a number determines, some of them with arguments that are
// rejected, and writes down what they return.
func ask(i int) string {
	seed := sampleKey(i % 7)
	one, err := chains.One(seed, 1+i%33, i*i, 1+i%5)
	all, allErr := chains.Form(seed, i%12, i%6, 1+i%4)
	none, noErr := chains.One(seed, -i, i, 1)
	far, farErr := chains.One(seed, 20, math.MaxInt-i, 1+i%20)
	return fmt.Sprint(one, err, all, allErr, none, noErr, far, farErr)
}

// A second run in another order would show one call's trace in the next.
func TestP1402ResultsDependOnArgumentsOnly(t *testing.T) {
	var first [200]string
	for i := range first {
		first[i] = ask(i)
	}
	for i := len(first) - 1; i >= 0; i-- {
		ask(i + 1)
		if again := ask(i); again != first[i] {
			t.Errorf("%d: %s, then %s", i, first[i], again)
		}
	}
}

func TestP1402CallsAtOnce(t *testing.T) {
	var want [60]string
	for i := range want {
		want[i] = ask(i)
	}
	var wait sync.WaitGroup
	for start := range 16 {
		wait.Go(func() {
			for i := range want {
				n := (i + 7*start) % len(want)
				if got := ask(n); got != want[n] {
					t.Errorf("%d beside other calls: %s, want %s", n, got, want[n])
				}
			}
		})
	}
	wait.Wait()
}
