package beacon_test

import (
	"crypto/sha256"
	"encoding/binary"
	"fmt"
	"math"
	"math/big"
	"slices"
	"strings"
	"testing"

	"courierbag/api"
	"courierbag/beacon"
)

// upward has the bytes 0 to 31.
func upward() api.Key {
	var k api.Key
	for i := range k {
		k[i] = byte(i)
	}
	return k
}

// sampleKey has bytes that no other number has.
func sampleKey(i int) api.Key { return sha256.Sum256(fmt.Append(nil, "sample ", i)) }

// sampleNames are no name, names that are no text, look like numbers and lengths,
// and are as long as blocks of SHA-256 and longer.
func sampleNames() []string {
	l := []string{"", "a", "keys 1 2 3", "mix 0 0 0 1", "-1", "Größe", "\x00", "\x00\x00", "\xff\x00\x80", "\xed\xa0\x80",
		string(make([]byte, 8)), "\x00\x00\x00\x00\x00\x00\x00\x08", strings.Repeat("\xff", 300)}
	for _, n := range []int{6, 7, 8, 9, 15, 16, 17, 31, 32, 33, 63, 64, 65, 70, 71, 72, 127, 128, 1000, 1 << 16} {
		l = append(l, strings.Repeat("name.", n)[:n])
	}
	return l
}

// wordOf has the i-th Word of a stream, by Go's own library.
func wordOf(seed api.Key, name string, i uint64) uint64 {
	var b []byte
	for _, part := range [][]byte{seed[:], []byte(name), binary.BigEndian.AppendUint64(nil, i/4)} {
		b = binary.BigEndian.AppendUint64(b, uint64(len(part)))
		b = append(b, part...)
	}
	digest := sha256.Sum256(b)
	return binary.BigEndian.Uint64(digest[i%4*8:])
}

// expected is a stream as the chapter has it, and how many Words were drawn.
type expected struct {
	seed  api.Key
	name  string
	drawn uint64
}

func (e *expected) word() uint64 {
	e.drawn++
	return wordOf(e.seed, e.name, e.drawn-1)
}

func number(x uint64) *big.Int { return new(big.Int).SetUint64(x) }

// multiple has the greatest multiple of n that is at most 2^64.
func multiple(n uint64) *big.Int {
	all := new(big.Int).Lsh(big.NewInt(1), 64)
	return all.Sub(all, new(big.Int).Mod(all, number(n)))
}

func (e *expected) next(n uint64) (uint64, api.Errno) {
	if n == 0 {
		return 0, api.ErrArg
	}
	for range 64 {
		if x := e.word(); number(x).Cmp(multiple(n)) < 0 {
			return x % n, api.OK
		}
	}
	return 0, api.ErrDraw
}

// both is a stream beside what is expected of it.
type both struct {
	stream *beacon.Stream
	want   *expected
}

func newBoth(seed api.Key, name string) both {
	return both{beacon.New(seed, name), &expected{seed: seed, name: name}}
}

func (b both) word(t *testing.T) uint64 {
	t.Helper()
	at := b.want.drawn
	got, want := b.stream.Word(), b.want.word()
	if got != want {
		t.Fatalf("%.40q: Word %d = %#x, want %#x", b.want.name, at, got, want)
	}
	return got
}

// next sees what Next returns; how many Words it drew, the next call sees.
func (b both) next(t *testing.T, n uint64) uint64 {
	t.Helper()
	at := b.want.drawn
	got, err := b.stream.Next(n)
	want, wantErr := b.want.next(n)
	if got != want || err != wantErr {
		t.Fatalf("%.40q: Next(%d) at Word %d = %d, %d, want %d, %d", b.want.name, n, at, got, err, want, wantErr)
	}
	return got
}

func (b both) skip(n int) {
	for range n {
		b.stream.Word()
	}
	b.want.drawn += uint64(n)
}

// limits are 0, 1, the powers of 2 and what is beside them, numbers just above 2^63,
// where nearly half of the Words are not suitable, and the greatest ones.
func limits() []uint64 {
	l := []uint64{0, 3, 5, 6, 7, 10, 100, 1000, 1 << 20, api.P, api.N, 3 << 62, 1<<64 - 2, 1<<64 - 1, math.MaxUint64 / 3,
		math.MaxUint64/3 + 1, 0x0123456789abcdef, 0x9e3779b97f4a7c15}
	for shift := range 64 {
		l = append(l, 1<<shift-1, 1<<shift, 1<<shift+1)
	}
	for off := range uint64(20) {
		l = append(l, 1<<63+off, 1<<63-off, 1<<64-1-off)
	}
	return l
}

// These numbers were computed apart from any Go program.
func TestP1201WordFixedNumbers(t *testing.T) {
	for _, c := range []struct {
		seed api.Key
		name string
		want map[int]uint64
	}{
		{api.Key{}, "", map[int]uint64{0: 0x37548055c1b50c26, 1: 0x2bef3b539ea3f3fa, 2: 0xd5431af9a7ec6145,
			3: 0x43706ed7630e11ba, 4: 0xa48d21b60774f88c, 5: 0x35e42731092158ea, 7: 0xbb40ef1432646426,
			8: 0x484eae47389d9c3b, 1023: 0x880edc28010da42a, 1024: 0x3b1f688720e6a9c9,
			262143: 0xdd0ac38819830a4f, 262144: 0x6312603e7cab99f2}},
		{upward(), "", map[int]uint64{0: 0xebc5cb67c930706b, 4: 0xe7d817383973b6dc}},
		{upward(), "keys 1 2 3", map[int]uint64{0: 0x51fde3f75eb3b5aa, 1: 0x697645ef05149345,
			2: 0xad4512fc2429026f, 3: 0x2e325431d74b5d45, 4: 0x6a9732a367c975f9, 5: 0x623baf6b41565f9f,
			7: 0x49086af15e2479ec, 8: 0x42d8f376c9b53a6a, 1023: 0x778fbe3a119e6f25, 1024: 0x472f271c93ee21e1,
			262143: 0x431a436937967191, 262144: 0xb44bdef2154073be}},
		{upward(), "\xff\x00\x80", map[int]uint64{0: 0x6bb51ec0b0d55857, 3: 0x2c2dff1c71354807, 4: 0xbf4605eab7163975}},
		{upward(), strings.Repeat("n", 100), map[int]uint64{0: 0x26e29e7211e301cc, 4: 0x4e216dd65830325b}},
		{api.Key{}, strings.Repeat("n", 100), map[int]uint64{0: 0x307a55ed7241663c, 1024: 0x484a83b90b7817c4}},
	} {
		s, seen := beacon.New(c.seed, c.name), 0
		for i := 0; seen < len(c.want); i++ {
			got := s.Word()
			want, ok := c.want[i]
			if !ok {
				continue
			}
			seen++
			if got != want {
				t.Errorf("%.40q: Word %d = %#x, want %#x", c.name, i, got, want)
			}
		}
	}
}

// These were computed apart from any Go program, too, one behind the other.
func TestP1201NextFixedNumbers(t *testing.T) {
	s, drawn := beacon.New(upward(), "next"), uint64(0)
	for _, c := range []struct{ n, want, drawn uint64 }{
		{1, 0, 1},
		{2, 0, 2},
		{3, 2, 3},
		{10, 0, 4},
		{1000, 233, 5},
		{1 << 32, 1419900086, 6},
		{1<<63 - 1, 1338105609338898180, 7},
		{1 << 63, 6640108824700176374, 8},
		{1<<63 + 1, 4827031535478042023, 10},
		{1<<63 + 1, 521833505467542078, 11},
		{1<<63 + 1, 8340266655897527842, 12},
		{1<<63 + 1<<62, 3725293694474469043, 13},
		{math.MaxUint64, 12186167341399605868, 14},
		{math.MaxUint64 - 1, 9959439337970396619, 15},
		{7, 2, 16},
	} {
		if got, err := s.Next(c.n); got != c.want || err != api.OK {
			t.Errorf("Next(%d) at Word %d = %d, %d, want %d", c.n, drawn, got, err, c.want)
		}
		drawn = c.drawn
	}
	if got := s.Word(); got != wordOf(upward(), "next", drawn) {
		t.Errorf("Word %d behind all = %#x", drawn, got)
	}
}

// Every place within a digest is met, for several digests.
func TestP1201WordOfEveryName(t *testing.T) {
	for i, name := range sampleNames() {
		for _, seed := range []api.Key{{}, upward(), sampleKey(i)} {
			b := newBoth(seed, name)
			for range 17 {
				b.word(t)
			}
		}
	}
}

func TestP1201WordOfLongNames(t *testing.T) {
	for _, n := range []int{1<<20 - 1, 1 << 20, 3 << 20} {
		b := newBoth(upward(), strings.Repeat("\xfe", n))
		for range 9 {
			b.word(t)
		}
		b.next(t, 1<<63+1)
	}
}

// The number of a digest comes to take a third byte.
func TestP1201WordFarIntoAStream(t *testing.T) {
	b := newBoth(sampleKey(1), "far")
	for range 270_000 {
		b.word(t)
	}
	b.skip(1_000_000)
	for range 100 {
		b.word(t)
	}
}

func TestP1201WordsOfEverySeed(t *testing.T) {
	seen := map[uint64]string{}
	note := func(what string, seed api.Key, name string) {
		b := newBoth(seed, name)
		for i := range 6 {
			x := b.word(t)
			if other, ok := seen[x]; ok {
				t.Errorf("%s, %d: the Word of %s", what, i, other)
			}
			seen[x] = fmt.Sprint(what, ", ", i)
		}
	}
	note("zero", api.Key{}, "")
	for bit := range 256 {
		seed := api.Key{}
		seed[bit/8] = 1 << (bit % 8)
		note(fmt.Sprint("bit ", bit), seed, "")
	}
	for n := 1; n < 80; n++ {
		note(fmt.Sprint("zeros ", n), api.Key{}, string(make([]byte, n)))
	}
	for bit := range 160 {
		name := make([]byte, 20)
		name[bit/8] = 1 << (bit % 8)
		note(fmt.Sprint("name ", bit), api.Key{}, string(name))
	}
}

func TestP1201NextOfEveryNumber(t *testing.T) {
	for i, name := range []string{"", "next", "\xff\x00"} {
		for _, n := range limits() {
			b := newBoth(sampleKey(i), name)
			for range 12 {
				if x := b.next(t, n); n > 0 && x >= n {
					t.Errorf("Next(%d) = %d", n, x)
				}
				b.next(t, 1<<63+uint64(i))
			}
			b.word(t)
		}
	}
}

func TestP1201NextOfZeroDrawsNothing(t *testing.T) {
	for drawn := range 10 {
		b := newBoth(upward(), "zero")
		b.skip(drawn)
		for range 5 {
			if got, err := b.stream.Next(0); got != 0 || err != api.ErrArg {
				t.Errorf("Next(0) = %d, %d", got, err)
			}
		}
		b.word(t)
		b.next(t, 0)
		b.next(t, 1000)
	}
}

func TestP1201NextOfOneDrawsAWord(t *testing.T) {
	b := newBoth(upward(), "one")
	for range 50 {
		got, err := b.stream.Next(1)
		if got != 0 || err != api.OK {
			t.Errorf("Next(1) = %d, %d", got, err)
		}
		b.want.drawn++
		b.word(t)
	}
}

// All Words are suitable, and the lowest bits are returned.
func TestP1201NextOfPowersOfTwo(t *testing.T) {
	for shift := range 64 {
		b := newBoth(sampleKey(2), "powers")
		for i := range uint64(40) {
			got, err := b.stream.Next(1 << shift)
			if want := wordOf(sampleKey(2), "powers", i) & (1<<shift - 1); got != want || err != api.OK {
				t.Errorf("Next(1<<%d), %d = %d, %d, want %d", shift, i, got, err, want)
			}
		}
	}
}

// Of numbers just above 2^63, the Words from that number on are not suitable.
func TestP1201NextLeavesWordsOut(t *testing.T) {
	const calls = 2000
	for _, n := range []uint64{1<<63 + 1, 1<<63 + 2, 1<<63 + 1<<20} {
		b := newBoth(sampleKey(3), "half")
		for range calls {
			b.next(t, n)
		}
		if b.want.drawn < calls*18/10 || b.want.drawn > calls*22/10 {
			t.Errorf("%d calls of Next(%d) drew %d Words", calls, n, b.want.drawn)
		}
	}
}

// A Word is below the greatest multiple of n if n is the Word and 1, and not if n is
// the Word itself.
func TestP1201NextAtTheGreatestMultiple(t *testing.T) {
	seed, name := sampleKey(4), "edge"
	high := 0
	for i := range 400 {
		x := wordOf(seed, name, uint64(i))
		if x <= 1<<63 || x == math.MaxUint64 {
			continue
		}
		high++
		for _, c := range []struct {
			n        uint64
			suitable bool
		}{{x - 1, false}, {x, false}, {x + 1, true}, {x + 2, true}} {
			if c.n <= 1<<63 {
				continue
			}
			b := newBoth(seed, name)
			b.skip(i)
			got := b.next(t, c.n)
			if (b.want.drawn == uint64(i)+1) != c.suitable || c.suitable && got != x {
				t.Errorf("Next(%d) at Word %#x = %d", c.n, x, got)
			}
			b.word(t)
		}
	}
	if high < 100 {
		t.Errorf("only %d Words were looked at", high)
	}
}

// A Word that is itself the greatest multiple of n, and not the first one, is not
// suitable; those beside it are asked, too.
func TestP1201NextAtAFurtherMultiple(t *testing.T) {
	seed, name := sampleKey(5), "multiple"
	met := 0
	for i := range 3000 {
		x := wordOf(seed, name, uint64(i))
		for times := uint64(2); times < 40; times++ {
			n := x / times
			if n == 0 || multiple(n).Cmp(number(n*times)) != 0 || x-n*times > 1 {
				continue
			}
			met++
			b := newBoth(seed, name)
			b.skip(i)
			b.next(t, n)
			b.next(t, n+1)
			b.word(t)
		}
	}
	if met < 20 {
		t.Errorf("only %d Words were looked at", met)
	}
}

// A Word behind a Next, a Next behind a Word, and errors between them.
func TestP1201WordsAndNextsInAnyOrder(t *testing.T) {
	l := limits()
	for run := range 200 {
		b := newBoth(sampleKey(run), fmt.Sprint("order ", run))
		for i := range uint64(60) {
			x := wordOf(sampleKey(-1), "which", 60*uint64(run)+i)
			switch x % 4 {
			case 0:
				b.word(t)
			case 1:
				b.next(t, 0)
			case 2:
				b.next(t, l[x/4%uint64(len(l))])
			case 3:
				b.next(t, x>>(x/4%64))
			}
		}
	}
}

// Each of few numbers is returned nearly as often as another.
func TestP1201NextReturnsEveryNumber(t *testing.T) {
	for _, n := range []uint64{2, 3, 10, 37} {
		s, counts := beacon.New(upward(), "spread"), make([]int, n)
		for range 1000 * n {
			x, err := s.Next(n)
			if err != api.OK || x >= n {
				t.Fatalf("Next(%d) = %d, %d", n, x, err)
			}
			counts[x]++
		}
		if slices.Min(counts) < 800 || slices.Max(counts) > 1200 {
			t.Errorf("Next(%d) returned its numbers as often as %v", n, counts)
		}
	}
}

func TestP1201ChapterExample(t *testing.T) {
	if got, err := beacon.New(api.Key{}, "").Next(1); got != 0 || err != api.OK {
		t.Errorf("Next(1) = %d, %d", got, err)
	}
}
