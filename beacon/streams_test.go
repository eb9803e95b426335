package beacon_test

import (
	"fmt"
	"slices"
	"strings"
	"sync"
	"testing"
	"unsafe"

	"courierbag/api"
	"courierbag/beacon"
)

// draws has what a stream returns if it is asked in one certain order.
func draws(s *beacon.Stream, count int) []uint64 {
	var l []uint64
	for i := range count {
		x, err := s.Next(1<<63 + uint64(i))
		none, noErr := s.Next(0)
		l = append(l, s.Word(), x, uint64(err), none, uint64(noErr))
	}
	return l
}

func TestP1202StreamsOfOneSeedAndNameAreTheSame(t *testing.T) {
	for i, name := range sampleNames() {
		seed := sampleKey(i)
		first, second, third := beacon.New(seed, name), beacon.New(seed, strings.Clone(name)), beacon.New(seed, name+"x")
		for range 5 {
			a := draws(first, 3)
			draws(third, 2)
			if b := draws(second, 3); !slices.Equal(a, b) {
				t.Errorf("%.40q: %x, then %x", name, a, b)
			}
		}
	}
}

// All streams are drawn in turn, each one as if it were alone.
func TestP1202StreamsAreIndependent(t *testing.T) {
	var all []both
	for i, name := range sampleNames() {
		all = append(all, newBoth(sampleKey(i), name), newBoth(sampleKey(i), name), newBoth(api.Key{}, name))
	}
	for round := range 40 {
		for i, b := range all {
			switch (i + round*i) % 5 {
			case 0:
				b.next(t, 0)
			case 1, 2:
				b.word(t)
			case 3:
				b.next(t, 1<<63+uint64(round))
			}
		}
	}
}

// How far one stream is shows in no other one, at every place within the digests of
// both.
func TestP1202DrawingChangesNoOtherStream(t *testing.T) {
	for ahead := range 9 {
		for between := range 9 {
			first, second := newBoth(upward(), "same"), newBoth(upward(), "same")
			first.skip(ahead)
			for range between {
				second.word(t)
			}
			for range 6 {
				first.word(t)
			}
			second.word(t)
			late := newBoth(upward(), "same")
			late.word(t)
			late.next(t, 10)
		}
	}
}

// A copy of a stream goes on by itself from where the stream is.
func TestP1202CopiesOfAStreamAreIndependent(t *testing.T) {
	for drawn := range 9 {
		b := newBoth(upward(), "copy")
		b.skip(drawn)
		stream := *b.stream
		twin := both{&stream, &expected{upward(), "copy", uint64(drawn)}}
		for range 9 {
			twin.word(t)
		}
		for range 9 {
			b.word(t)
		}
		twin.word(t)
	}
}

func TestP1202SeedIsNotKept(t *testing.T) {
	seeds := []api.Key{sampleKey(1), sampleKey(2)}
	s := beacon.New(seeds[0], "a")
	want := wordOf(seeds[0], "a", 0)
	seeds[0][0]++
	if got := s.Word(); got != want {
		t.Errorf("the Word of a seed that is there no more is %#x, want %#x", got, want)
	}
	if seeds[1] != sampleKey(2) {
		t.Error("the seed beside was changed")
	}
}

// Go changes no string, so the bytes of the name are changed beside it.
func TestP1202NameIsNotKept(t *testing.T) {
	for _, n := range []int{1, 8, 32, 64, 1000} {
		bytes := []byte(strings.Repeat("x", n))
		s := newBoth(upward(), strings.Clone(string(bytes)))
		s.stream = beacon.New(upward(), unsafe.String(&bytes[0], n))
		for i := range 9 {
			bytes[0], bytes[n-1] = byte(i), byte(i)
			s.word(t)
		}
	}
}

func TestP1202NameIsNotModified(t *testing.T) {
	all := []byte(strings.Repeat("y", 300))
	for _, n := range []int{1, 8, 32, 64, 200} {
		draws(beacon.New(upward(), unsafe.String(&all[10], n)), 10)
		if string(all) != strings.Repeat("y", 300) {
			t.Fatalf("a name of %d bytes, or what lies beside it, was changed", n)
		}
	}
}

// A second run in another order would show one stream's trace in the next.
func TestP1202ResultsDependOnSeedNameAndCallsOnly(t *testing.T) {
	ask := func(i int) []uint64 {
		return draws(beacon.New(sampleKey(i%20), fmt.Sprint("only ", i/20)), 1+i%7)
	}
	var first [100][]uint64
	for i := range first {
		first[i] = ask(i)
	}
	for i := len(first) - 1; i >= 0; i-- {
		ask(i + 1)
		if again := ask(i); !slices.Equal(again, first[i]) {
			t.Errorf("%d: %x, then %x", i, first[i], again)
		}
	}
}

func TestP1202StreamsAtOnce(t *testing.T) {
	want := draws(beacon.New(upward(), "at once"), 50)
	var wait sync.WaitGroup
	for i := range 16 {
		wait.Go(func() {
			for range 20 {
				own := beacon.New(sampleKey(i), fmt.Sprint(i))
				for j := range uint64(30) {
					if own.Word() != wordOf(sampleKey(i), fmt.Sprint(i), j) {
						t.Errorf("Word %d of stream %d is wrong beside other streams", j, i)
					}
				}
				if !slices.Equal(draws(beacon.New(upward(), "at once"), 50), want) {
					t.Error("one stream of many of one seed and name is another one")
				}
			}
		})
	}
	wait.Wait()
}

// The chapter allows no call on a nil stream; but no call panics, whatever it is
// given.
func TestP1202NoStream(t *testing.T) {
	var s *beacon.Stream
	if got := s.Word(); got != 0 {
		t.Errorf("Word = %#x", got)
	}
	for _, n := range []uint64{0, 1, 1<<63 + 1} {
		if got, err := s.Next(n); got != 0 || err != api.ErrArg {
			t.Errorf("Next(%d) = %d, %d", n, got, err)
		}
	}
}
