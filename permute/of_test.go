package permute_test

import (
	"crypto/sha256"
	"encoding/binary"
	"fmt"
	"math"
	"slices"
	"testing"

	"courierbag/api"
	"courierbag/beacon"
	"courierbag/permute"
)

// upward has the bytes 0 to 31.
func upward() api.Key {
	var k api.Key
	for i := range k {
		k[i] = byte(i)
	}
	return k
}

// sampleKey has bytes that no other number has.
func sampleKey(i int) api.Key { return sha256.Sum256(fmt.Append(nil, "sample ", i)) }

// ascending has the numbers 0 to n - 1 in order.
func ascending(n int) []int {
	l := make([]int, n)
	for i := range l {
		l[i] = i
	}
	return l
}

// outside has numbers of which there is no permutation: those just outside the
// limits, the least and the greatest ones, and those that are within the limits if
// they are cut to fewer bits.
func outside() []int {
	return []int{-1, -2, -api.MaxBatch, api.MaxBatch + 1, api.MaxBatch + 2, 2 * api.MaxBatch, api.MaxChains,
		math.MinInt, math.MinInt + 1, math.MaxInt, math.MaxInt - 1, math.MinInt32, math.MaxInt32,
		-1 << 8, -1 << 16, -1<<32 + 5, 1 << 16, 1<<16 + 5, 1 << 32, 1<<32 + 5, 1<<32 - 1, -1<<63 + 5, 1 << 62}
}

// twins are two streams of one seed and name: one is passed to Of, the other one says
// what is expected of it.
type twins struct{ used, own *beacon.Stream }

func newTwins(seed api.Key, name string) twins {
	return twins{beacon.New(seed, name), beacon.New(seed, name)}
}

func (s twins) skip(n int) {
	for range n {
		s.used.Word()
		s.own.Word()
	}
}

// expected is a permutation as the chapter has it.
func (s twins) expected(t *testing.T, n int) []int {
	t.Helper()
	p := ascending(n)
	for i := n - 1; i >= 1; i-- {
		j, err := s.own.Next(uint64(i) + 1)
		if err != api.OK {
			t.Fatalf("Next(%d) has the error %d", i+1, err)
		}
		kept := p[i]
		p[i] = p[j]
		p[j] = kept
	}
	return p
}

// permutation sees what Of returns.
func (s twins) permutation(t *testing.T, n int) []int {
	t.Helper()
	got, err := permute.Of(n, s.used)
	want := s.expected(t, n)
	if !slices.Equal(got, want) || err != api.OK {
		t.Fatalf("Of(%d) = %v, %d, want %v", n, got, err, want)
	}
	return got
}

// rejected sees that Of returns nothing.
func (s twins) rejected(t *testing.T, n int) {
	t.Helper()
	if got, err := permute.Of(n, s.used); len(got) != 0 || err != api.ErrArg {
		t.Fatalf("Of(%d) = %v, %d", n, got, err)
	}
}

// place sees that the streams are drawn equally far.
func (s twins) place(t *testing.T) {
	t.Helper()
	if got, want := s.used.Word(), s.own.Word(); got != want {
		t.Fatalf("the Word behind Of is %#x, want %#x", got, want)
	}
}

// These permutations were computed apart from any Go program, one behind the other.
func TestP1301OfFixedNumbers(t *testing.T) {
	s := beacon.New(upward(), "order")
	for _, want := range [][]int{
		{},
		{0},
		{0, 1},
		{2, 1, 0},
		{0, 2, 1, 3},
		{0, 1, 4, 3, 2},
		{9, 4, 1, 8, 0, 7, 3, 2, 6, 5},
		{3, 10, 4, 13, 6, 12, 14, 15, 1, 11, 9, 2, 5, 8, 0, 7},
		{32, 36, 3, 7, 23, 34, 27, 30, 35, 20, 21, 5, 17, 19, 6, 26, 24, 8, 38, 0, 39, 12, 9, 10, 15, 11, 22, 16, 31,
			14, 2, 18, 33, 37, 4, 1, 29, 13, 25, 28},
	} {
		if got, err := permute.Of(len(want), s); !slices.Equal(got, want) || err != api.OK {
			t.Errorf("Of(%d) = %v, %d, want %v", len(want), got, err, want)
		}
	}
	if got := s.Word(); got != 0x9404f81a66d9e9f {
		t.Errorf("the Word behind all is %#x", got)
	}
}

// These were computed apart from any Go program, too, each one from a new stream.
func TestP1301OfNewStreamsFixedNumbers(t *testing.T) {
	for _, want := range [][]int{{1, 0}, {1, 0, 2}, {4, 1, 9, 7, 3, 2, 0, 8, 5, 6}} {
		got, err := permute.Of(len(want), beacon.New(api.Key{}, ""))
		if !slices.Equal(got, want) || err != api.OK {
			t.Errorf("Of(%d) = %v, %d, want %v", len(want), got, err, want)
		}
	}
}

// The digest of the numbers, as 8 bytes each, was computed apart from any Go program.
func TestP1301OfMaxBatchFixedNumbers(t *testing.T) {
	s := beacon.New(upward(), "mix 0 0 0 1")
	got, err := permute.Of(api.MaxBatch, s)
	if len(got) != 1000 || err != api.OK {
		t.Fatalf("Of(1000) has %d numbers and the error %d", len(got), err)
	}
	if !slices.Equal(got[:8], []int{280, 554, 176, 542, 347, 922, 791, 471}) ||
		!slices.Equal(got[992:], []int{149, 265, 190, 684, 820, 728, 711, 638}) {
		t.Errorf("Of(1000) = %v .. %v", got[:8], got[992:])
	}
	var b []byte
	for _, x := range got {
		b = binary.BigEndian.AppendUint64(b, uint64(x))
	}
	if digest := fmt.Sprintf("%x", sha256.Sum256(b)); digest !=
		"5b9c220d8ad3ef9207d549f3c39343a0050ecf91f638bbecf7b03c4837c43cda" {
		t.Errorf("the digest of Of(1000) is %s", digest)
	}
	if word := s.Word(); word != 0x65e7ccc760840d89 {
		t.Errorf("the Word behind Of(1000) is %#x", word)
	}
}

func TestP1301OfEveryNumber(t *testing.T) {
	for n := range api.MaxBatch + 1 {
		s := newTwins(sampleKey(n), "every")
		p := s.permutation(t, n)
		s.place(t)
		sorted := slices.Sorted(slices.Values(p))
		if !slices.Equal(sorted, ascending(n)) || !permute.Right(p) {
			t.Errorf("Of(%d) is no permutation: %v", n, p)
		}
	}
}

func TestP1301OfManySeeds(t *testing.T) {
	for i := range 300 {
		for _, n := range []int{2, 3, 5, 20} {
			s := newTwins(sampleKey(i), fmt.Sprint("mix ", i, " ", n))
			s.permutation(t, n)
			s.place(t)
		}
	}
}

// Of fewer than two numbers, nothing is drawn.
func TestP1301OfNoneAndOneDrawNothing(t *testing.T) {
	for drawn := range 9 {
		s := newTwins(upward(), "few")
		s.skip(drawn)
		for n := range 2 {
			if got, err := permute.Of(n, s.used); !slices.Equal(got, ascending(n)) || err != api.OK {
				t.Errorf("Of(%d) = %v, %d", n, got, err)
			}
		}
		s.place(t)
	}
}

func TestP1301OfNumbersOutsideTheLimitsDrawsNothing(t *testing.T) {
	for drawn := range 9 {
		for _, n := range outside() {
			s := newTwins(upward(), "outside")
			s.skip(drawn)
			s.rejected(t, n)
			s.place(t)
			s.permutation(t, 7)
			s.rejected(t, n)
			s.place(t)
		}
	}
}

// Of goes on where the stream is, at every place within a digest.
func TestP1301OfAStreamThatWasDrawnFrom(t *testing.T) {
	for drawn := range 13 {
		for n := range 13 {
			s := newTwins(upward(), "drawn")
			s.skip(drawn)
			s.permutation(t, n)
			s.place(t)
			s.permutation(t, 12-n)
			s.place(t)
		}
	}
}

// One permutation behind the other, with Words, other numbers and errors between them.
func TestP1301OfAStreamManyTimes(t *testing.T) {
	s := newTwins(sampleKey(1), "many")
	for i := range 400 {
		s.permutation(t, (i*i+3)%41)
		switch i % 4 {
		case 0:
			s.place(t)
		case 1:
			s.rejected(t, outside()[i%len(outside())])
		case 2:
			got, err := s.used.Next(uint64(i))
			want, wantErr := s.own.Next(uint64(i))
			if got != want || err != wantErr {
				t.Fatalf("Next(%d) behind Of = %d, %d, want %d, %d", i, got, err, want, wantErr)
			}
		}
	}
	s.permutation(t, api.MaxBatch)
	s.place(t)
}

// Each permutation of few numbers is returned nearly as often as another.
func TestP1301OfReturnsEveryPermutation(t *testing.T) {
	for n, many := range map[int]int{2: 2, 3: 6, 4: 24, 5: 120} {
		s, counts := beacon.New(upward(), "spread"), map[string]int{}
		for range 500 * many {
			p, err := permute.Of(n, s)
			if err != api.OK {
				t.Fatalf("Of(%d) has the error %d", n, err)
			}
			counts[fmt.Sprint(p)]++
		}
		if len(counts) != many {
			t.Errorf("Of(%d) returned %d permutations, want %d", n, len(counts), many)
		}
		for p, count := range counts {
			if count < 350 || count > 650 {
				t.Errorf("Of(%d) returned %s %d times", n, p, count)
			}
		}
	}
}

func TestP1301ChapterExample(t *testing.T) {
	if got, err := permute.Of(1, beacon.New(api.Key{}, "")); !slices.Equal(got, []int{0}) || err != api.OK {
		t.Errorf("Of(1) = %v, %d", got, err)
	}
}

// Next of no stream has the error ErrArg, which is seen where a number is drawn.
func TestP1301OfNoStream(t *testing.T) {
	for n := range 2 {
		if got, err := permute.Of(n, nil); !slices.Equal(got, ascending(n)) || err != api.OK {
			t.Errorf("Of(%d) of no stream = %v, %d", n, got, err)
		}
	}
	for _, n := range append(outside(), 2, 3, 100, api.MaxBatch) {
		if got, err := permute.Of(n, nil); len(got) != 0 || err != api.ErrArg {
			t.Errorf("Of(%d) of no stream = %v, %d", n, got, err)
		}
	}
}
