package words_test

import (
	"bytes"
	"math"
	"testing"

	"courierbag/api"
	"courierbag/words"
)

func TestP101RotTable(t *testing.T) {
	for _, c := range []struct {
		x    uint32
		n    int
		want uint32
	}{
		{0x12345678, 0, 0x12345678},
		{0x12345678, 4, 0x81234567},
		{0x12345678, -4, 0x23456781},
		{0x12345678, 16, 0x56781234},
		{0x12345678, -16, 0x56781234},
		{0x12345678, 32, 0x12345678},
		{0x12345678, -32, 0x12345678},
		{0x12345678, 36, 0x81234567},
		{0x12345678, -36, 0x23456781},
		{1, 1, 1 << 31},
		{1 << 31, -1, 1},
		{1, 31, 2},
		{1, 33, 1 << 31},
		{1, math.MaxInt, 2},
		{1, math.MinInt, 1},
		{1, math.MinInt + 1, 1 << 31},
		{0, 7, 0},
		{math.MaxUint32, 13, math.MaxUint32},
	} {
		if got := words.Rot(c.x, c.n); got != c.want {
			t.Errorf("Rot(%#x, %d) = %#x, want %#x", c.x, c.n, got, c.want)
		}
	}
}

func TestP101RotMovesEveryBit(t *testing.T) {
	for n := -100; n <= 100; n++ {
		for bit := range 32 {
			place := ((bit-n)%32 + 32) % 32
			if got := words.Rot(1<<bit, n); got != 1<<place {
				t.Errorf("Rot(1<<%d, %d) = %#x, want bit %d", bit, n, got, place)
			}
		}
	}
}

func TestP101Put32(t *testing.T) {
	for _, c := range []struct {
		b    []byte
		x    uint32
		want []byte
	}{
		{nil, 0, []byte{0, 0, 0, 0}},
		{[]byte{}, 0x01020304, []byte{1, 2, 3, 4}},
		{[]byte{9, 8}, 0x01020304, []byte{9, 8, 1, 2, 3, 4}},
		{[]byte{0}, 1, []byte{0, 0, 0, 0, 1}},
		{nil, 1 << 31, []byte{128, 0, 0, 0}},
		{nil, math.MaxUint32, []byte{255, 255, 255, 255}},
	} {
		if got := words.Put32(c.b, c.x); !bytes.Equal(got, c.want) {
			t.Errorf("Put32(%v, %#x) = %v, want %v", c.b, c.x, got, c.want)
		}
	}
}

func TestP101Put64(t *testing.T) {
	for _, c := range []struct {
		b    []byte
		x    uint64
		want []byte
	}{
		{nil, 0, []byte{0, 0, 0, 0, 0, 0, 0, 0}},
		{[]byte{}, 0x0102030405060708, []byte{1, 2, 3, 4, 5, 6, 7, 8}},
		{[]byte{9, 8}, 0x0102030405060708, []byte{9, 8, 1, 2, 3, 4, 5, 6, 7, 8}},
		{[]byte{0}, 1, []byte{0, 0, 0, 0, 0, 0, 0, 0, 1}},
		{nil, 1 << 32, []byte{0, 0, 0, 1, 0, 0, 0, 0}},
		{nil, 1 << 63, []byte{128, 0, 0, 0, 0, 0, 0, 0}},
		{nil, math.MaxUint64, []byte{255, 255, 255, 255, 255, 255, 255, 255}},
	} {
		if got := words.Put64(c.b, c.x); !bytes.Equal(got, c.want) {
			t.Errorf("Put64(%v, %#x) = %v, want %v", c.b, c.x, got, c.want)
		}
	}
}

func TestP101Get32(t *testing.T) {
	b := []byte{0x01, 0x02, 0x03, 0x04, 0xff, 0xfe}
	for _, c := range []struct {
		b    []byte
		at   int
		want uint32
		err  api.Errno
	}{
		{b, 0, 0x01020304, api.OK},
		{b, 1, 0x020304ff, api.OK},
		{b, 2, 0x0304fffe, api.OK},
		{b, 3, 0, api.ErrShort},
		{b, 6, 0, api.ErrShort},
		{b, 7, 0, api.ErrArg},
		{b, -1, 0, api.ErrArg},
		{b, math.MaxInt, 0, api.ErrArg},
		{b, math.MaxInt - 3, 0, api.ErrArg},
		{b, math.MinInt, 0, api.ErrArg},
		{bytes.Repeat([]byte{255}, 4), 0, math.MaxUint32, api.OK},
		{nil, 0, 0, api.ErrShort},
		{[]byte{}, 0, 0, api.ErrShort},
		{nil, 1, 0, api.ErrArg},
		{nil, -1, 0, api.ErrArg},
	} {
		if got, err := words.Get32(c.b, c.at); got != c.want || err != c.err {
			t.Errorf("Get32(%v, %d) = %#x, %d, want %#x, %d", c.b, c.at, got, err, c.want, c.err)
		}
	}
}

func TestP101Get64(t *testing.T) {
	b := []byte{0x01, 0x02, 0x03, 0x04, 0x05, 0x06, 0x07, 0x08, 0xff, 0xfe}
	for _, c := range []struct {
		b    []byte
		at   int
		want uint64
		err  api.Errno
	}{
		{b, 0, 0x0102030405060708, api.OK},
		{b, 1, 0x02030405060708ff, api.OK},
		{b, 2, 0x030405060708fffe, api.OK},
		{b, 3, 0, api.ErrShort},
		{b, 6, 0, api.ErrShort},
		{b, 10, 0, api.ErrShort},
		{b, 11, 0, api.ErrArg},
		{b, -1, 0, api.ErrArg},
		{b, math.MaxInt, 0, api.ErrArg},
		{b, math.MaxInt - 7, 0, api.ErrArg},
		{b, math.MinInt, 0, api.ErrArg},
		{bytes.Repeat([]byte{255}, 8), 0, math.MaxUint64, api.OK},
		{nil, 0, 0, api.ErrShort},
		{[]byte{}, 0, 0, api.ErrShort},
		{nil, 1, 0, api.ErrArg},
		{nil, -1, 0, api.ErrArg},
	} {
		if got, err := words.Get64(c.b, c.at); got != c.want || err != c.err {
			t.Errorf("Get64(%v, %d) = %#x, %d, want %#x, %d", c.b, c.at, got, err, c.want, c.err)
		}
	}
}

// Bytes beyond the length are not part of b, even where the capacity has them.
func TestP101GetStopsAtTheLength(t *testing.T) {
	b := make([]byte, 3, 64)
	if got, err := words.Get32(b, 0); got != 0 || err != api.ErrShort {
		t.Errorf("Get32 = %#x, %d", got, err)
	}
	if got, err := words.Get64(b, 0); got != 0 || err != api.ErrShort {
		t.Errorf("Get64 = %#x, %d", got, err)
	}
	if got, err := words.Get32(b, 4); got != 0 || err != api.ErrArg {
		t.Errorf("Get32 at 4 = %#x, %d", got, err)
	}
	if got, err := words.Get64(b, 4); got != 0 || err != api.ErrArg {
		t.Errorf("Get64 at 4 = %#x, %d", got, err)
	}
}

func TestP101GetReadsWhatPutWrote(t *testing.T) {
	for shift := range 64 {
		for _, x := range []uint64{1 << shift, 1<<shift - 1, 0x9e3779b97f4a7c15 >> shift} {
			b := words.Put64(words.Put32([]byte{7}, uint32(x)), x)
			if got, err := words.Get32(b, 1); got != uint32(x) || err != api.OK {
				t.Errorf("Get32 of %#x = %#x, %d", uint32(x), got, err)
			}
			if got, err := words.Get64(b, 5); got != x || err != api.OK {
				t.Errorf("Get64 of %#x = %#x, %d", x, got, err)
			}
		}
	}
}

func TestP101NarrowTable(t *testing.T) {
	for _, c := range []struct {
		n, bits int
		signed  bool
		want    int
	}{
		{300, 8, false, 44},
		{300, 8, true, 44},
		{127, 8, true, 127},
		{128, 8, true, -128},
		{255, 8, false, 255},
		{255, 8, true, -1},
		{256, 8, false, 0},
		{-129, 8, true, 127},
		{-1, 8, false, 255},
		{-1, 8, true, -1},
		{math.MinInt, 8, false, 0},
		{math.MaxInt, 8, true, -1},
		{1<<15 - 1, 16, true, 1<<15 - 1},
		{1 << 15, 16, true, -1 << 15},
		{1 << 15, 16, false, 1 << 15},
		{-1, 16, false, 1<<16 - 1},
		{1 << 16, 16, false, 0},
		{1<<31 - 1, 32, true, 1<<31 - 1},
		{1 << 31, 32, true, -1 << 31},
		{1 << 31, 32, false, 1 << 31},
		{-1, 32, false, 1<<32 - 1},
		{1<<32 + 5, 32, false, 5},
		{math.MinInt, 32, true, 0},
		{math.MaxInt, 32, false, 1<<32 - 1},
		{0, 64, false, 0},
		{-1, 64, false, -1},
		{-1, 64, true, -1},
		{math.MinInt, 64, false, math.MinInt},
		{math.MinInt, 64, true, math.MinInt},
		{math.MaxInt, 64, false, math.MaxInt},
		{math.MaxInt, 64, true, math.MaxInt},
	} {
		if got, err := words.Narrow(c.n, c.bits, c.signed); got != c.want || err != api.OK {
			t.Errorf("Narrow(%d, %d, %t) = %d, %d, want %d", c.n, c.bits, c.signed, got, err, c.want)
		}
	}
}

func TestP101NarrowRejectsOtherWidths(t *testing.T) {
	widths := []int{math.MinInt, -64, -8, -1, 65, 128, 256 + 8, 1<<32 + 8, math.MaxInt}
	for bits := range 64 {
		if bits != 8 && bits != 16 && bits != 32 {
			widths = append(widths, bits)
		}
	}
	for _, bits := range widths {
		for _, signed := range []bool{false, true} {
			if got, err := words.Narrow(5, bits, signed); got != 0 || err != api.ErrArg {
				t.Errorf("Narrow(5, %d, %t) = %d, %d", bits, signed, got, err)
			}
		}
	}
}

// The result is the one number of the type's range that differs from n by a
// multiple of 2^bits.
func TestP101NarrowKeepsTheRemainder(t *testing.T) {
	for _, bits := range []int{8, 16, 32} {
		for _, signed := range []bool{false, true} {
			low, high := 0, 1<<bits-1
			if signed {
				low, high = -1<<(bits-1), 1<<(bits-1)-1
			}
			for shift := range 64 {
				for off := -2; off <= 2; off++ {
					n := 1<<shift + off
					got, err := words.Narrow(n, bits, signed)
					if err != api.OK || got < low || got > high || (n-got)&(1<<bits-1) != 0 {
						t.Errorf("Narrow(%d, %d, %t) = %d, %d", n, bits, signed, got, err)
					}
				}
			}
		}
	}
}

// puts has both functions that append, by what they append for 0x01020304.
func puts() map[string]func(b []byte) []byte {
	return map[string]func(b []byte) []byte{
		"Put32": func(b []byte) []byte { return words.Put32(b, 0x01020304) },
		"Put64": func(b []byte) []byte { return words.Put64(b, 0x01020304) },
	}
}

func TestP102PutLeavesItsArgument(t *testing.T) {
	for name, put := range puts() {
		all := bytes.Repeat([]byte{0xaa}, 32)
		put(all[:2])
		put(all[:0])
		put(all)
		if !bytes.Equal(all, bytes.Repeat([]byte{0xaa}, 32)) {
			t.Errorf("%s changed its argument or what lies behind it: %v", name, all)
		}
	}
}

func TestP102PutSharesNothing(t *testing.T) {
	for name, put := range puts() {
		b := make([]byte, 2, 32)
		first, second := put(b), put(b)
		want := bytes.Clone(second)
		b[0] = 1
		for i := range first {
			first[i] = 0xee
		}
		_ = append(first, 0xee, 0xee)
		_ = append(b, 0xee, 0xee)
		if !bytes.Equal(second, want) {
			t.Errorf("%s: a result changed from %v to %v", name, want, second)
		}
		if !bytes.Equal(b, []byte{1, 0}) {
			t.Errorf("%s: the argument changed to %v", name, b)
		}
	}
}

func TestP102GetLeavesItsArgument(t *testing.T) {
	b := []byte{1, 2, 3, 4, 5, 6, 7, 8, 9}
	was := bytes.Clone(b)
	for at := -1; at <= len(b)+1; at++ {
		a32, e32 := words.Get32(b, at)
		a64, e64 := words.Get64(b, at)
		b32, f32 := words.Get32(b, at)
		b64, f64 := words.Get64(b, at)
		if a32 != b32 || a64 != b64 || e32 != f32 || e64 != f64 {
			t.Errorf("at %d the same call has two results", at)
		}
	}
	if !bytes.Equal(b, was) {
		t.Errorf("the argument changed to %v", b)
	}
}

// Results are compared with those of a second run over the same arguments in
// another order, so that one call's trace in the next would be seen.
func TestP102ResultsDependOnArgumentsOnly(t *testing.T) {
	type call struct {
		n, bits int
		signed  bool
	}
	var calls []call
	for _, n := range []int{-300, -1, 0, 1, 300, 1 << 40} {
		for _, bits := range []int{8, 16, 32, 64, 7} {
			calls = append(calls, call{n, bits, false}, call{n, bits, true})
		}
	}
	type answer struct {
		n   int
		err api.Errno
		rot uint32
	}
	ask := func(c call) answer {
		n, err := words.Narrow(c.n, c.bits, c.signed)
		return answer{n, err, words.Rot(uint32(c.n), c.bits)}
	}
	first := map[call]answer{}
	for _, c := range calls {
		first[c] = ask(c)
	}
	for i := range calls {
		c := calls[len(calls)-1-i]
		if again := ask(c); again != first[c] {
			t.Errorf("%v: %v, then %v", c, first[c], again)
		}
	}
	for name, put := range puts() {
		if a, b := put([]byte{3}), put([]byte{3}); !bytes.Equal(a, b) {
			t.Errorf("%s: %v, then %v", name, a, b)
		}
	}
}
