package modp_test

import (
	"math"
	"math/big"
	"sync"
	"testing"

	"courierbag/api"
	"courierbag/modp"
)

const (
	p     = api.P
	width = 61
)

// edges are at and beside the multiples of P and the powers of 2, up to the
// greatest number of 64 bits.
func edges() []uint64 {
	var l []uint64
	for k := range uint64(9) {
		for off := range uint64(5) {
			l = append(l, k*p+off-2)
		}
	}
	for shift := range 64 {
		l = append(l, 1<<shift-1, 1<<shift, 1<<shift+1)
	}
	return append(l, 37, math.MaxUint64-1, math.MaxUint64, 0x0123456789abcdef, 0x9e3779b97f4a7c15)
}

// powers are exponents: every small one, and those beside the multiples of the
// group's order, and beside the powers of 2.
func powers() []uint64 {
	var l []uint64
	for e := range uint64(20) {
		l = append(l, e)
	}
	for k := range uint64(8) {
		for off := range uint64(5) {
			l = append(l, (k+1)*(p-1)+off-2)
		}
	}
	for _, shift := range []int{31, 32, 33, 60, 61, 62, 63} {
		l = append(l, 1<<shift-1, 1<<shift, 1<<shift+1)
	}
	return append(l, math.MaxUint64-1, math.MaxUint64)
}

// spread has n numbers of all sizes, always the same.
func spread(n int) []uint64 {
	l := make([]uint64, n)
	x := uint64(n) + 1
	for i := range l {
		x = x*6364136223846793005 + 1442695040888963407
		l[i] = (x ^ x>>29) >> (i % 9 * 7)
	}
	return l
}

func number(x uint64) *big.Int { return new(big.Int).SetUint64(x) }

// residue is the remainder from 0 to P-1, also of a negative number.
func residue(x *big.Int) uint64 { return x.Mod(x, number(p)).Uint64() }

func sum(a, b uint64) uint64        { return residue(new(big.Int).Add(number(a), number(b))) }
func difference(a, b uint64) uint64 { return residue(new(big.Int).Sub(number(a), number(b))) }
func product(a, b uint64) uint64    { return residue(new(big.Int).Mul(number(a), number(b))) }
func power(a, e uint64) uint64 {
	return residue(new(big.Int).Exp(number(a), number(e), number(p)))
}

// inverse is by Euclid, not by powers.
func inverse(a uint64) uint64 {
	if a%p == 0 {
		return 0
	}
	return new(big.Int).ModInverse(number(a), number(p)).Uint64()
}

// operation is one of the functions of two arguments, beside Go's own big
// numbers.
type operation struct {
	name      string
	got, want func(a, b uint64) uint64
}

func operations() []operation {
	return []operation{
		{"Add", modp.Add, sum},
		{"Sub", modp.Sub, difference},
		{"Mul", modp.Mul, product},
	}
}

func check(t *testing.T, op operation, a, b uint64) {
	t.Helper()
	if got, want := op.got(a, b), op.want(a, b); got != want || got >= p {
		t.Errorf("%s(%d, %d) = %d, want %d", op.name, a, b, got, want)
	}
}

func checkPow(t *testing.T, a, e uint64) {
	t.Helper()
	if got, want := modp.Pow(a, e), power(a, e); got != want || got >= p {
		t.Errorf("Pow(%d, %d) = %d, want %d", a, e, got, want)
	}
}

func checkOne(t *testing.T, a uint64) {
	t.Helper()
	if got, want := modp.Reduce(a), residue(number(a)); got != want || got >= p {
		t.Errorf("Reduce(%d) = %d, want %d", a, got, want)
	}
	if got, want := modp.Inv(a), inverse(a); got != want || got >= p {
		t.Errorf("Inv(%d) = %d, want %d", a, got, want)
	}
}

// These numbers were computed apart from any Go program.
func TestP601FixedNumbers(t *testing.T) {
	for _, c := range []struct{ a, b, reduce, add, sub, mul, pow, inv uint64 }{
		{37, 41, 37, 78, 2305843009213693947, 1517, 398107308255342787, 2181202846553494278},
		{123456789012345678, 987654321098765432, 123456789012345678, 1111111110111111110,
			1441645477127274197, 1974130249480659620, 228779911208474777, 1884067921235876792},
		{p - 1, p - 1, p - 1, p - 2, 0, 1, 1, p - 1},
		{p - 1, 2, p - 1, 1, p - 3, p - 2, 1, p - 1},
		{math.MaxUint64, math.MaxUint64, 7, 14, 0, 49, 4747561509943, 1976436865040309101},
		{math.MaxUint64, 1, 7, 8, 6, 7, 7, 1976436865040309101},
		{1 << 63, 1 << 63, 4, 8, 0, 16, 65536, 576460752303423488},
		{p + 5, 3, 5, 8, 2, 15, 125, 1844674407370955161},
		{8 * p, 8 * p, 0, 0, 0, 0, 0, 0},
		{11400714819323198485, 14029467366897019727, 2177342782468422681, 65909084869584751,
			1982933470853566660, 1743233579260851512, 1167349588418078088, 1668782088158133545},
		{81985529216486895, p - 1, 81985529216486895, 81985529216486894,
			81985529216486896, 2223857479997207056, 1, 1306314494490161379},
		{3, p - 7, 3, p - 4, 10, p - 21, 2188811196674727317, 1537228672809129301},
	} {
		for _, part := range []struct {
			name      string
			got, want uint64
		}{
			{"Reduce", modp.Reduce(c.a), c.reduce},
			{"Add", modp.Add(c.a, c.b), c.add},
			{"Sub", modp.Sub(c.a, c.b), c.sub},
			{"Mul", modp.Mul(c.a, c.b), c.mul},
			{"Pow", modp.Pow(c.a, c.b), c.pow},
			{"Inv", modp.Inv(c.a), c.inv},
		} {
			if part.got != part.want {
				t.Errorf("%s of %d, %d = %d, want %d", part.name, c.a, c.b, part.got, part.want)
			}
		}
	}
}

func TestP601Reduce(t *testing.T) {
	for _, c := range []struct{ x, want uint64 }{
		{0, 0},
		{1, 1},
		{p - 1, p - 1},
		{p, 0},
		{p + 1, 1},
		{1 << 61, 1},
		{2*p - 1, p - 1},
		{2 * p, 0},
		{1 << 62, 2},
		{1 << 63, 4},
		{8*p - 1, p - 1},
		{8 * p, 0},
		{math.MaxUint64, 7},
	} {
		if got := modp.Reduce(c.x); got != c.want {
			t.Errorf("Reduce(%d) = %d, want %d", c.x, got, c.want)
		}
	}
}

func TestP601OneArgument(t *testing.T) {
	for _, a := range edges() {
		checkOne(t, a)
	}
	for _, a := range spread(3000) {
		checkOne(t, a)
	}
}

func TestP601Edges(t *testing.T) {
	for _, op := range operations() {
		for _, a := range edges() {
			for _, b := range edges() {
				check(t, op, a, b)
			}
		}
	}
}

func TestP601ManyNumbers(t *testing.T) {
	l := spread(20001)
	for _, op := range operations() {
		for i := range len(l) - 1 {
			check(t, op, l[i], l[i+1])
		}
	}
}

// 2^61 is 1: a product of powers of 2 comes back below as often as it passes it.
func TestP601ProductsOfPowersOfTwo(t *testing.T) {
	for i := range 64 {
		for j := range 64 {
			if got, want := modp.Mul(1<<i, 1<<j), uint64(1)<<((i+j)%width); got != want {
				t.Errorf("Mul(2^%d, 2^%d) = %d, want %d", i, j, got, want)
			}
		}
	}
	if got := modp.Mul(1<<60, 2); got != 1 {
		t.Errorf("the chapter's example: %d", got)
	}
}

// The sum of what is above 2^61 and what is below is at P or beyond it here, or
// just not.
func TestP601ProductsBesideP(t *testing.T) {
	for a := range uint64(300) {
		for b := range uint64(20) {
			if got, want := modp.Mul(p-1-a, p-1-b), (a+1)*(b+1); got != want {
				t.Errorf("Mul(-%d, -%d) = %d, want %d", a+1, b+1, got, want)
			}
			if got, want := modp.Mul(p-1-a, b+1), p-(a+1)*(b+1); got != want {
				t.Errorf("Mul(-%d, %d) = %d, want %d", a+1, b+1, got, want)
			}
		}
	}
	for _, a := range spread(2000) {
		if got := modp.Mul(a, modp.Inv(a)); a%p != 0 && got != 1 {
			t.Errorf("Mul of %d and its inverse = %d", a, got)
		}
	}
}

func TestP601ZeroAndOne(t *testing.T) {
	for _, a := range edges() {
		for k := range uint64(9) {
			zero, one := k*p, k*p+1
			if modp.Add(a, zero) != a%p || modp.Add(zero, a) != a%p || modp.Sub(a, zero) != a%p {
				t.Errorf("%d and %d times P: %d, %d, %d", a, k, modp.Add(a, zero), modp.Add(zero, a), modp.Sub(a, zero))
			}
			if modp.Mul(a, zero) != 0 || modp.Mul(zero, a) != 0 {
				t.Errorf("%d by %d times P: %d, %d", a, k, modp.Mul(a, zero), modp.Mul(zero, a))
			}
			if modp.Mul(a, one) != a%p || modp.Mul(one, a) != a%p {
				t.Errorf("%d by %d: %d, %d", a, one, modp.Mul(a, one), modp.Mul(one, a))
			}
		}
		if got := modp.Sub(a, a); got != 0 {
			t.Errorf("Sub(%d, %d) = %d", a, a, got)
		}
		if got := modp.Add(modp.Sub(0, a), a); got != 0 {
			t.Errorf("%d and what is missing to 0: %d", a, got)
		}
	}
}

func TestP601Pow(t *testing.T) {
	for _, a := range edges() {
		for _, e := range powers() {
			checkPow(t, a, e)
		}
	}
	l := spread(4001)
	for i := range len(l) - 1 {
		checkPow(t, l[i], l[i+1])
	}
}

func TestP601PowToSmallExponents(t *testing.T) {
	for _, a := range edges() {
		if got := modp.Pow(a, 0); got != 1 {
			t.Errorf("Pow(%d, 0) = %d", a, got)
		}
		if got := modp.Pow(a, 1); got != a%p {
			t.Errorf("Pow(%d, 1) = %d", a, got)
		}
		if got := modp.Pow(a, 2); got != product(a, a) {
			t.Errorf("Pow(%d, 2) = %d", a, got)
		}
	}
	for e := range uint64(300) {
		if got, want := modp.Pow(2, e), uint64(1)<<(e%width); got != want {
			t.Errorf("Pow(2, %d) = %d, want %d", e, got, want)
		}
	}
}

// The exponent is taken as it is: modulo P it would give another power.
func TestP601PowToGreatExponents(t *testing.T) {
	for _, a := range edges() {
		for k := range uint64(8) {
			e := (k + 1) * (p - 1)
			want := uint64(1)
			if a%p == 0 {
				want = 0
			}
			if got := modp.Pow(a, e); got != want {
				t.Errorf("Pow(%d, %d) = %d, want %d", a, e, got, want)
			}
			if got := modp.Pow(a, (k+1)*p); got != power(a%p, k+1) {
				t.Errorf("Pow(%d, %d times P) = %d", a, k+1, got)
			}
		}
		// 2^64 - 1 is 15 and 8 times P - 1.
		if got := modp.Pow(a, math.MaxUint64); got != power(a, 15) {
			t.Errorf("Pow(%d, %d) = %d", a, uint64(math.MaxUint64), got)
		}
	}
}

func TestP601PowOfZero(t *testing.T) {
	for k := range uint64(9) {
		for _, e := range powers() {
			want := uint64(0)
			if e == 0 {
				want = 1
			}
			if got := modp.Pow(k*p, e); got != want {
				t.Errorf("Pow of %d times P to %d = %d, want %d", k, e, got, want)
			}
		}
	}
}

func TestP601Inv(t *testing.T) {
	for k := range uint64(9) {
		if got := modp.Inv(k * p); got != 0 {
			t.Errorf("Inv of %d times P = %d", k, got)
		}
	}
	for k := range uint64(8) {
		if got := modp.Inv(k*p + 1); got != 1 {
			t.Errorf("Inv of %d times P and 1 = %d", k, got)
		}
		if got := modp.Inv(k*p + p - 1); got != p-1 {
			t.Errorf("Inv of %d times P less 1 = %d", k+1, got)
		}
	}
	for shift := range 64 {
		if got, want := modp.Inv(1<<shift), uint64(1)<<((2*width-shift)%width); got != want {
			t.Errorf("Inv(2^%d) = %d, want %d", shift, got, want)
		}
	}
	for _, a := range edges() {
		if got := modp.Inv(modp.Inv(a)); got != a%p {
			t.Errorf("the inverse of the inverse of %d = %d", a, got)
		}
	}
}

// answers has what all functions return for the same arguments.
func answers(a, b uint64) [6]uint64 {
	return [6]uint64{
		modp.Reduce(a), modp.Add(a, b), modp.Sub(a, b), modp.Mul(a, b), modp.Pow(a, b), modp.Inv(a),
	}
}

func wanted(a, b uint64) [6]uint64 {
	return [6]uint64{
		residue(number(a)), sum(a, b), difference(a, b), product(a, b), power(a, b), inverse(a),
	}
}

// A second run in another order would show one call's trace in the next.
func TestP602ResultsDependOnArgumentsOnly(t *testing.T) {
	l := append(spread(500), 0, 1, p-1, p, p+1, math.MaxUint64, 0)
	first := make([][6]uint64, len(l)-1)
	for i := range first {
		first[i] = answers(l[i], l[i+1])
	}
	for i := len(first) - 1; i >= 0; i-- {
		answers(l[i+1], l[i])
		if again := answers(l[i], l[i+1]); again != first[i] {
			t.Errorf("%d, %d: %v, then %v", l[i], l[i+1], first[i], again)
		}
		if want := wanted(l[i], l[i+1]); want != first[i] {
			t.Errorf("%d, %d: %v, want %v", l[i], l[i+1], first[i], want)
		}
	}
}

func TestP602CallsAtOnce(t *testing.T) {
	var wait sync.WaitGroup
	for n := range 16 {
		wait.Go(func() {
			l := spread(100 + n)
			for i := range len(l) - 1 {
				if got, want := answers(l[i], l[i+1]), wanted(l[i], l[i+1]); got != want {
					t.Errorf("%d, %d beside other calls: %v, want %v", l[i], l[i+1], got, want)
				}
			}
		})
	}
	wait.Wait()
}
