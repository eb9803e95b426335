package scalar_test

import (
	"bytes"
	"encoding/binary"
	"math"
	"math/big"
	"sync"
	"testing"

	"courierbag/api"
	"courierbag/scalar"
)

const n = api.N

// edges are at and beside the multiples of N, those of P and the powers of 2, up
// to the greatest number of 64 bits.
func edges() []uint64 {
	var l []uint64
	for k := range uint64(9) {
		for off := range uint64(5) {
			l = append(l, k*n+off-2)
		}
		l = append(l, k*api.P-1, k*api.P, k*api.P+1)
	}
	for shift := range 64 {
		l = append(l, 1<<shift-1, 1<<shift, 1<<shift+1)
	}
	return append(l, 37, n/2, math.MaxUint64-1, math.MaxUint64, 0x0123456789abcdef, 0x9e3779b97f4a7c15)
}

// spread has count numbers of all sizes, always the same.
func spread(count int) []uint64 {
	l := make([]uint64, count)
	x := uint64(count) + 1
	for i := range l {
		x = x*6364136223846793005 + 1442695040888963407
		l[i] = (x ^ x>>29) >> (i % 9 * 7)
	}
	return l
}

// sample has size bytes, always the same.
func sample(size int) []byte {
	b := make([]byte, size)
	x := uint32(size) + 1
	for i := range b {
		x = x*1664525 + 1013904223
		b[i] = byte(x >> 24)
	}
	return b
}

func number(x uint64) *big.Int { return new(big.Int).SetUint64(x) }

// residue is the remainder from 0 to N-1, also of a negative number.
func residue(x *big.Int) uint64 { return x.Mod(x, number(n)).Uint64() }

func sum(a, b uint64) uint64        { return residue(new(big.Int).Add(number(a), number(b))) }
func difference(a, b uint64) uint64 { return residue(new(big.Int).Sub(number(a), number(b))) }
func product(a, b uint64) uint64    { return residue(new(big.Int).Mul(number(a), number(b))) }
func of(b []byte) uint64            { return residue(new(big.Int).SetBytes(b)) }

// operation is one of the functions of two arguments, beside Go's own big
// numbers.
type operation struct {
	name      string
	got, want func(a, b uint64) uint64
}

func operations() []operation {
	return []operation{
		{"Add", scalar.Add, sum},
		{"Sub", scalar.Sub, difference},
		{"Mul", scalar.Mul, product},
	}
}

func check(t *testing.T, op operation, a, b uint64) {
	t.Helper()
	if got, want := op.got(a, b), op.want(a, b); got != want || got >= n {
		t.Errorf("%s(%d, %d) = %d, want %d", op.name, a, b, got, want)
	}
}

func checkReduce(t *testing.T, x uint64) {
	t.Helper()
	if got, want := scalar.Reduce(x), residue(number(x)); got != want || got >= n {
		t.Errorf("Reduce(%d) = %d, want %d", x, got, want)
	}
}

func checkOf(t *testing.T, b []byte) {
	t.Helper()
	if got, want := scalar.Of(b), of(b); got != want || got >= n {
		t.Errorf("Of(%x), of %d bytes, = %d, want %d", b[:min(40, len(b))], len(b), got, want)
	}
}

// These numbers were computed apart from any Go program.
func TestP701FixedNumbers(t *testing.T) {
	for _, c := range []struct{ a, b, reduce, add, sub, mul uint64 }{
		{37, 41, 37, 78, 2305843009213693946, 1517},
		{123456789012345678, 987654321098765432, 123456789012345678, 1111111110111111110,
			1441645477127274196, 2027010098910912696},
		{n - 1, n - 1, n - 1, n - 2, 0, 1},
		{n - 1, 2, n - 1, 1, n - 3, n - 2},
		{n - 1, 1, n - 1, 0, n - 2, n - 1},
		{math.MaxUint64, math.MaxUint64, 15, 30, 0, 225},
		{math.MaxUint64, 1, 15, 16, 14, 15},
		{1 << 63, 1 << 63, 8, 16, 0, 64},
		{1 << 61, 1 << 61, 2, 4, 0, 4},
		{1 << 60, 2, 1 << 60, 1<<60 + 2, 1<<60 - 2, 2},
		{1 << 60, 1 << 60, 1 << 60, 2, 0, 1 << 60},
		{1 << 31, 1 << 30, 1 << 31, 3 << 30, 1 << 30, 2},
		{n, n, 0, 0, 0, 0},
		{n + 1, n + 1, 1, 2, 0, 1},
		{n + 5, 3, 5, 8, 2, 15},
		{8 * n, 8 * n, 0, 0, 0, 0},
		{11400714819323198485, 14029467366897019727, 2177342782468422685, 65909084869584762,
			1982933470853566658, 1933444717248829745},
		{81985529216486895, n - 1, 81985529216486895, 81985529216486894, 81985529216486896,
			2223857479997207055},
		{3, n - 7, 3, n - 4, 10, n - 21},
	} {
		for _, part := range []struct {
			name      string
			got, want uint64
		}{
			{"Reduce", scalar.Reduce(c.a), c.reduce},
			{"Add", scalar.Add(c.a, c.b), c.add},
			{"Sub", scalar.Sub(c.a, c.b), c.sub},
			{"Mul", scalar.Mul(c.a, c.b), c.mul},
		} {
			if part.got != part.want {
				t.Errorf("%s of %d, %d = %d, want %d", part.name, c.a, c.b, part.got, part.want)
			}
		}
	}
}

func TestP701Reduce(t *testing.T) {
	for _, c := range []struct{ x, want uint64 }{
		{0, 0},
		{1, 1},
		{n - 1, n - 1},
		{n, 0},
		{n + 1, 1},
		{1 << 61, 2},
		{1<<61 + 1, 3},
		{2*n - 1, n - 1},
		{2 * n, 0},
		{1 << 62, 4},
		{1 << 63, 8},
		{7<<61 - 1, 13},
		{8*n - 1, n - 1},
		{8 * n, 0},
		{8*n + 1, 1},
		{math.MaxUint64, 15},
	} {
		if got := scalar.Reduce(c.x); got != c.want {
			t.Errorf("Reduce(%d) = %d, want %d", c.x, got, c.want)
		}
	}
	for _, x := range append(edges(), spread(3000)...) {
		checkReduce(t, x)
	}
}

func TestP701Edges(t *testing.T) {
	for _, op := range operations() {
		for _, a := range edges() {
			for _, b := range edges() {
				check(t, op, a, b)
			}
		}
	}
}

func TestP701ManyNumbers(t *testing.T) {
	l := spread(20001)
	for _, op := range operations() {
		for i := range len(l) - 1 {
			check(t, op, l[i], l[i+1])
		}
	}
}

func TestP701ChapterExample(t *testing.T) {
	if got := scalar.Add(n-1, 1); got != 0 {
		t.Errorf("Add(N-1, 1) = %d", got)
	}
	if got := scalar.Sub(0, 1); got != n-1 {
		t.Errorf("Sub(0, 1) = %d", got)
	}
}

// 2^61 is 2, and not 1 as it is modulo P: 2^60 times 2^k is 2^k, from k = 1 on.
func TestP701ProductsOfPowersOfTwo(t *testing.T) {
	for i := range 64 {
		for j := range 64 {
			want := i + j
			for want > 60 {
				want -= 60
			}
			if got := scalar.Mul(1<<i, 1<<j); got != 1<<want {
				t.Errorf("Mul(2^%d, 2^%d) = %d, want 2^%d", i, j, got, want)
			}
		}
	}
}

// What is above 2^61, added twice to what is below, is at a multiple of N here or
// beside one.
func TestP701ProductsBesideN(t *testing.T) {
	for a := range uint64(300) {
		for b := range uint64(20) {
			if got, want := scalar.Mul(n-1-a, n-1-b), (a+1)*(b+1); got != want {
				t.Errorf("Mul(-%d, -%d) = %d, want %d", a+1, b+1, got, want)
			}
			if got, want := scalar.Mul(n-1-a, b+1), n-(a+1)*(b+1); got != want {
				t.Errorf("Mul(-%d, %d) = %d, want %d", a+1, b+1, got, want)
			}
		}
	}
}

// N is no prime: so products of factors that are not 0 may be 0.
func TestP701ProductsOfDivisorsOfN(t *testing.T) {
	for _, d := range []uint64{2, 3, 9, 5, 25, 7, 11, 13, 31, 41, 61, 151, 331, 1321} {
		if n%d != 0 {
			t.Fatalf("%d does not divide N", d)
		}
		for k := range uint64(30) {
			if got := scalar.Mul(n/d, k*d); got != 0 {
				t.Errorf("Mul(N/%d, %d) = %d", d, k*d, got)
			}
			if got := scalar.Mul(n/d, k*d+1); got != n/d {
				t.Errorf("Mul(N/%d, %d) = %d", d, k*d+1, got)
			}
		}
	}
}

func TestP701ZeroAndOne(t *testing.T) {
	for _, a := range edges() {
		for k := range uint64(9) {
			zero, one := k*n, k*n+1
			if scalar.Add(a, zero) != a%n || scalar.Add(zero, a) != a%n || scalar.Sub(a, zero) != a%n {
				t.Errorf("%d and %d times N: %d, %d, %d", a, k, scalar.Add(a, zero), scalar.Add(zero, a), scalar.Sub(a, zero))
			}
			if scalar.Mul(a, zero) != 0 || scalar.Mul(zero, a) != 0 {
				t.Errorf("%d by %d times N: %d, %d", a, k, scalar.Mul(a, zero), scalar.Mul(zero, a))
			}
			if scalar.Mul(a, one) != a%n || scalar.Mul(one, a) != a%n {
				t.Errorf("%d by %d: %d, %d", a, one, scalar.Mul(a, one), scalar.Mul(one, a))
			}
		}
		if got := scalar.Sub(a, a); got != 0 {
			t.Errorf("Sub(%d, %d) = %d", a, a, got)
		}
		if got := scalar.Add(scalar.Sub(0, a), a); got != 0 {
			t.Errorf("%d and what is missing to 0: %d", a, got)
		}
		if got := scalar.Mul(n-1, a); got != scalar.Sub(0, a) {
			t.Errorf("%d by -1 = %d, want %d", a, got, scalar.Sub(0, a))
		}
	}
}

// These numbers, too, were computed apart from any Go program.
func TestP701OfFixedBytes(t *testing.T) {
	var all [256]byte
	for i := range all {
		all[i] = byte(i)
	}
	for _, c := range []struct {
		name string
		b    []byte
		want uint64
	}{
		{"nil", nil, 0},
		{"no bytes", []byte{}, 0},
		{"an empty piece", all[:0], 0},
		{"zeros", make([]byte, 100), 0},
		{"1 byte", []byte{0x25}, 37},
		{"2 bytes", []byte{1, 2}, 258},
		{"8 bytes", all[1:9], 72623859790382856},
		{"9 bytes", all[1:10], 144964032628459545},
		{"256 bytes", all[:], 696876998340138615},
		{"8 of 255", bytes.Repeat([]byte{255}, 8), 15},
		{"9 of 255", bytes.Repeat([]byte{255}, 9), 4095},
		{"100 of 255", bytes.Repeat([]byte{255}, 100), 1048575},
	} {
		if got := scalar.Of(c.b); got != c.want {
			t.Errorf("Of %s = %d, want %d", c.name, got, c.want)
		}
	}
}

func TestP701OfOneByte(t *testing.T) {
	for i := range 256 {
		if got := scalar.Of([]byte{byte(i)}); got != uint64(i) {
			t.Errorf("Of(%d) = %d", i, got)
		}
	}
}

// 8 bytes may stand for N, its multiples, and whatever is beside them.
func TestP701OfEightBytes(t *testing.T) {
	for _, x := range append(edges(), spread(3000)...) {
		b := binary.BigEndian.AppendUint64(nil, x)
		if got := scalar.Of(b); got != x%n {
			t.Errorf("Of the bytes of %d = %d, want %d", x, got, x%n)
		}
		for _, zeros := range []int{1, 8, 50} {
			if got := scalar.Of(append(make([]byte, zeros), b...)); got != x%n {
				t.Errorf("Of %d zeros and the bytes of %d = %d, want %d", zeros, x, got, x%n)
			}
		}
	}
}

func TestP701OfEveryLength(t *testing.T) {
	for size := range 300 {
		checkOf(t, sample(size))
		checkOf(t, bytes.Repeat([]byte{255}, size))
		checkOf(t, append([]byte{1}, make([]byte, size)...))
	}
	for _, size := range []int{1000, 1 << 12, 1 << 16, 1 << 20} {
		checkOf(t, sample(size))
	}
}

// The multiples of N have any number of bytes.
func TestP701OfMultiplesOfN(t *testing.T) {
	for size := range 60 {
		multiple := new(big.Int).SetBytes(sample(size))
		multiple.Mul(multiple, number(n))
		if got := scalar.Of(multiple.Bytes()); got != 0 {
			t.Errorf("Of a multiple of N in %d bytes = %d", len(multiple.Bytes()), got)
		}
		next := new(big.Int).Add(multiple, big.NewInt(1))
		if got := scalar.Of(next.Bytes()); got != 1 {
			t.Errorf("Of a multiple of N and 1 in %d bytes = %d", len(next.Bytes()), got)
		}
		if multiple.Sign() == 0 {
			continue
		}
		last := new(big.Int).Sub(multiple, big.NewInt(1))
		if got := scalar.Of(last.Bytes()); got != n-1 {
			t.Errorf("Of a multiple of N less 1 in %d bytes = %d", len(last.Bytes()), got)
		}
	}
}

func TestP702OfLeavesItsArgument(t *testing.T) {
	for size := range 100 {
		all := sample(size + 20)
		before := bytes.Clone(all)
		scalar.Of(all[:size])
		if !bytes.Equal(all, before) {
			t.Errorf("Of wrote into its %d bytes or behind them", size)
		}
	}
}

func TestP702OfDoesNotKeepItsArgument(t *testing.T) {
	for size := 1; size < 100; size++ {
		b := sample(size)
		first := scalar.Of(b)
		for i := range b {
			b[i] ^= 0x5a
		}
		checkOf(t, b)
		if again := scalar.Of(sample(size)); again != first {
			t.Errorf("Of the same %d bytes = %d, then %d", size, first, again)
		}
	}
}

// What stands behind the bytes is not theirs.
func TestP702OfTakesTheLengthOnly(t *testing.T) {
	all := sample(100)
	for size := range all {
		if got, want := scalar.Of(all[:size]), scalar.Of(bytes.Clone(all[:size:size])); got != want {
			t.Errorf("Of %d bytes with others behind them = %d, want %d", size, got, want)
		}
	}
}

// answers has what all functions return for the same arguments.
func answers(a, b uint64) [5]uint64 {
	two := binary.BigEndian.AppendUint64(binary.BigEndian.AppendUint64(nil, a), b)
	return [5]uint64{
		scalar.Reduce(a), scalar.Add(a, b), scalar.Sub(a, b), scalar.Mul(a, b), scalar.Of(two),
	}
}

func wanted(a, b uint64) [5]uint64 {
	two := new(big.Int).Lsh(number(a), 64)
	return [5]uint64{
		residue(number(a)), sum(a, b), difference(a, b), product(a, b), residue(two.Add(two, number(b))),
	}
}

// A second run in another order would show one call's trace in the next.
func TestP702ResultsDependOnArgumentsOnly(t *testing.T) {
	l := append(spread(500), 0, 1, n-1, n, n+1, math.MaxUint64, 0)
	first := make([][5]uint64, len(l)-1)
	for i := range first {
		first[i] = answers(l[i], l[i+1])
	}
	for i := len(first) - 1; i >= 0; i-- {
		answers(l[i+1], l[i])
		if again := answers(l[i], l[i+1]); again != first[i] {
			t.Errorf("%d, %d: %v, then %v", l[i], l[i+1], first[i], again)
		}
		if want := wanted(l[i], l[i+1]); want != first[i] {
			t.Errorf("%d, %d: %v, want %v", l[i], l[i+1], first[i], want)
		}
	}
}

func TestP702CallsAtOnce(t *testing.T) {
	var wait sync.WaitGroup
	for k := range 16 {
		wait.Go(func() {
			l := spread(100 + k)
			for i := range len(l) - 1 {
				if got, want := answers(l[i], l[i+1]), wanted(l[i], l[i+1]); got != want {
					t.Errorf("%d, %d beside other calls: %v, want %v", l[i], l[i+1], got, want)
				}
			}
		})
	}
	wait.Wait()
}
