package beacon

import (
	"crypto/sha256"
	"encoding/binary"
	"math"
	"testing"

	"courierbag/api"
)

// No seed is known of which 64 Words one behind the other are not suitable, so the
// Words come from a list here.
type list struct {
	words []uint64
	drawn int
}

func (l *list) word() uint64 {
	l.drawn++
	return l.words[l.drawn-1]
}

// listOf has bad Words that are not suitable, then one that is, then more.
func listOf(bad int, unsuitable, suitable uint64) *list {
	var l list
	for range bad {
		l.words = append(l.words, unsuitable)
	}
	l.words = append(l.words, suitable)
	for range 100 {
		l.words = append(l.words, 0)
	}
	return &l
}

func TestP1201NextDrawsAtMost64Words(t *testing.T) {
	for _, n := range []uint64{1<<63 + 1, 1<<63 + 3, 3 << 62, math.MaxUint64 - 1, math.MaxUint64} {
		for bad := range 70 {
			for _, unsuitable := range []uint64{n, math.MaxUint64} {
				l := listOf(bad, unsuitable, n-1)
				got, err := below(n, l.word)
				if bad < 64 && (got != n-1 || err != api.OK || l.drawn != bad+1) {
					t.Errorf("below(%d) behind %d Words = %d, %d, of %d Words", n, bad, got, err, l.drawn)
				}
				if bad >= 64 && (got != 0 || err != api.ErrDraw || l.drawn != 64) {
					t.Errorf("below(%d) behind %d Words = %d, %d, of %d Words", n, bad, got, err, l.drawn)
				}
			}
		}
	}
}

// The greatest multiples of these numbers were computed apart from any Go program.
func TestP1201NextAtTheEdgeOfTheSuitableWords(t *testing.T) {
	for _, c := range []struct{ n, greatest uint64 }{
		{3, 18446744073709551615},
		{6, 18446744073709551612},
		{7, 18446744073709551614},
		{10, 18446744073709551610},
		{1000, 18446744073709551000},
		{1<<61 - 1, 18446744073709551608},
		{1<<61 - 2, 18446744073709551600},
		{1<<32 - 1, 18446744073709551615},
		{1<<32 + 1, 18446744073709551615},
		{6148914691236517205, 18446744073709551615},
		{6148914691236517206, 12297829382473034412},
		{1<<63 - 1, 18446744073709551614},
		{1<<63 + 1, 9223372036854775809},
		{1<<64 - 2, 18446744073709551614},
		{1<<64 - 1, 18446744073709551615},
	} {
		for _, x := range []uint64{c.greatest - 1, c.greatest - c.n, c.greatest - c.n + 1, 0, c.n - 1} {
			l := listOf(0, 0, x)
			if got, err := below(c.n, l.word); got != x%c.n || err != api.OK || l.drawn != 1 {
				t.Errorf("below(%d) of the Word %d = %d, %d, of %d Words", c.n, x, got, err, l.drawn)
			}
		}
		for x := c.greatest; x < c.greatest+5 && x >= c.greatest; x++ {
			l := listOf(1, x, c.n-1)
			if got, err := below(c.n, l.word); got != c.n-1 || err != api.OK || l.drawn != 2 {
				t.Errorf("below(%d) of the Word %d = %d, %d, of %d Words", c.n, x, got, err, l.drawn)
			}
		}
	}
}

func TestP1201NextTakesAnyWordForPowersOfTwo(t *testing.T) {
	for shift := range 64 {
		for _, x := range []uint64{0, 1<<shift - 1, 1 << shift, 1 << 63, math.MaxUint64 - 1, math.MaxUint64} {
			l := listOf(0, 0, x)
			if got, err := below(1<<shift, l.word); got != x&(1<<shift-1) || err != api.OK || l.drawn != 1 {
				t.Errorf("below(1<<%d) of the Word %#x = %d, %d, of %d Words", shift, x, got, err, l.drawn)
			}
		}
	}
}

func TestP1201NextOfZeroAsksForNoWord(t *testing.T) {
	l := listOf(0, 0, 5)
	if got, err := below(0, l.word); got != 0 || err != api.ErrArg || l.drawn != 0 {
		t.Errorf("below(0) = %d, %d, of %d Words", got, err, l.drawn)
	}
}

// A stream is set where a test can't draw it to: the number of a digest takes more
// than three bytes there.
func TestP1201WordFarBehindWhatATestCanDraw(t *testing.T) {
	for _, digest := range []uint64{1<<24 - 1, 1 << 24, 1<<29 - 2} {
		s := New(api.Key{1, 2, 3}, "far")
		s.drawn = 4 * digest
		for i := range uint64(8) {
			b := append(binary.BigEndian.AppendUint64(nil, 32), s.seed[:]...)
			b = append(binary.BigEndian.AppendUint64(b, 3), "far"...)
			b = append(b, 0, 0, 0, 0, 0, 0, 0, 8)
			b = binary.BigEndian.AppendUint64(b, digest+i/4)
			sum := sha256.Sum256(b)
			if got, want := s.Word(), binary.BigEndian.Uint64(sum[i%4*8:]); got != want {
				t.Errorf("Word %d of digest %d = %#x, want %#x", i, digest, got, want)
			}
		}
	}
}
