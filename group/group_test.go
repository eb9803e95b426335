package group_test

import (
	"bytes"
	"encoding/binary"
	"math"
	"math/big"
	"slices"
	"sync"
	"testing"

	"courierbag/api"
	"courierbag/group"
	"courierbag/modp"
	"courierbag/scalar"
)

const (
	p = api.P
	n = api.N
)

// outside are numbers that are no elements: 0, P, and numbers above it, most of
// which are not 0 modulo P.
func outside() []uint64 {
	l := []uint64{0}
	for off := range uint64(50) {
		l = append(l, p+off)
	}
	for k := range uint64(7) {
		for off := range uint64(5) {
			l = append(l, (k+2)*p+off-2)
		}
	}
	for shift := 61; shift < 64; shift++ {
		l = append(l, 1<<shift, 1<<shift+1, 1<<shift+37)
	}
	return append(l, 1<<62-1, 1<<63-1, math.MaxUint64-1, math.MaxUint64)
}

// inside are elements: at both ends of the range, beside the powers of 2, and of
// all sizes.
func inside() []uint64 {
	l := []uint64{p - 1, p - 2, p - 3, p - 37, p / 2, p/2 + 1, 37, 0x0123456789abcdef}
	for x := range uint64(40) {
		l = append(l, x+1)
	}
	for shift := 3; shift < 61; shift++ {
		l = append(l, 1<<shift-1, 1<<shift, 1<<shift+1)
	}
	return append(l, elements(100)...)
}

// powers are exponents: the small ones, and those at and beside the multiples of
// N and of P and the powers of 2, up to the greatest number of 64 bits.
func powers() []uint64 {
	var l []uint64
	for e := range uint64(20) {
		l = append(l, e)
	}
	for k := range uint64(8) {
		for off := range uint64(5) {
			l = append(l, (k+1)*n+off-2)
		}
		l = append(l, (k+1)*p-1, (k+1)*p)
	}
	for _, shift := range []int{31, 32, 33, 60, 61, 62, 63} {
		l = append(l, 1<<shift-1, 1<<shift, 1<<shift+1)
	}
	return append(l, n/2, n/3, math.MaxUint64-1, math.MaxUint64)
}

// spread has count numbers of all sizes, always the same.
func spread(count int) []uint64 {
	l := make([]uint64, count)
	x := uint64(count) + 1
	for i := range l {
		x = x*6364136223846793005 + 1442695040888963407
		l[i] = (x ^ x>>29) >> (i % 9 * 7)
	}
	return l
}

// elements has count elements of all sizes, always the same.
func elements(count int) []uint64 {
	l := spread(count)
	for i, x := range l {
		l[i] = x%(p-1) + 1
	}
	return l
}

func number(x uint64) *big.Int { return new(big.Int).SetUint64(x) }

func isElement(x uint64) bool {
	return number(x).Sign() == 1 && number(x).Cmp(number(p)) == -1
}

// times, product and digits are by Go's own big numbers and bytes.
func times(x, e uint64) uint64 {
	if !isElement(x) {
		return 0
	}
	return new(big.Int).Exp(number(x), number(e), number(p)).Uint64()
}

func product(l []uint64) uint64 {
	all := big.NewInt(1)
	for _, x := range l {
		if !isElement(x) {
			return 0
		}
		all.Mul(all, number(x))
		all.Mod(all, number(p))
	}
	return all.Uint64()
}

func digits(x uint64) []byte { return binary.BigEndian.AppendUint64(nil, x) }

func checkTimes(t *testing.T, x, e uint64) {
	t.Helper()
	if got, want := group.Times(x, e), times(x, e); got != want {
		t.Errorf("Times(%d, %d) = %d, want %d", x, e, got, want)
	}
}

func checkProduct(t *testing.T, l []uint64) {
	t.Helper()
	if got, want := group.Product(l), product(l); got != want {
		t.Errorf("Product of %d numbers, %v = %d, want %d", len(l), l[:min(8, len(l))], got, want)
	}
}

func checkBytes(t *testing.T, x uint64) {
	t.Helper()
	if got, want := group.Bytes(x), digits(x); !bytes.Equal(got, want) {
		t.Errorf("Bytes(%d) = %v, want %v", x, got, want)
	}
}

func TestP801RightTable(t *testing.T) {
	for _, c := range []struct {
		x    uint64
		want bool
	}{
		{0, false},
		{1, true},
		{2, true},
		{37, true},
		{1 << 60, true},
		{p - 2, true},
		{p - 1, true},
		{p, false},
		{p + 1, false},
		{1 << 61, false},
		{2*p - 1, false},
		{2 * p, false},
		{2*p + 1, false},
		{1 << 62, false},
		{1<<63 - 1, false},
		{1 << 63, false},
		{8*p + 1, false},
		{math.MaxUint64 - 1, false},
		{math.MaxUint64, false},
	} {
		if got := group.Right(c.x); got != c.want {
			t.Errorf("Right(%d) = %v, want %v", c.x, got, c.want)
		}
	}
}

func TestP801Right(t *testing.T) {
	for _, x := range outside() {
		if group.Right(x) {
			t.Errorf("Right(%d) = true", x)
		}
	}
	for _, x := range inside() {
		if !group.Right(x) {
			t.Errorf("Right(%d) = false", x)
		}
	}
	for _, x := range spread(5000) {
		if got := group.Right(x); got != isElement(x) {
			t.Errorf("Right(%d) = %v", x, got)
		}
	}
}

// These numbers were computed apart from any Go program, and so were those of
// Base and Product.
func TestP801TimesFixedNumbers(t *testing.T) {
	for _, c := range []struct{ x, e, want uint64 }{
		{37, 41, 398107308255342787},
		{37, 1 << 63, 3512479453921},
		{2, 60, 1 << 60},
		{2, 61, 1},
		{3, p - 7, 2188811196674727317},
		{5, n / 2, 1},
		{5, n / 3, 1669582390241348315},
		{1 << 60, 1 << 40, 281474976710656},
		{123456789012345678, 987654321098765432, 228779911208474777},
		{81985529216486895, n - 1, 1306314494490161379},
		{2177342782468422681, 14029467366897019727, 1167349588418078088},
		{p - 2, math.MaxUint64, 2305843009213661183},
		{p - 1, math.MaxUint64 - 1, 1},
		{p - 1, math.MaxUint64, p - 1},
		{0, 0, 0},
		{0, 5, 0},
		{p, 0, 0},
		{p, 1, 0},
		{p + 1, 0, 0},
		{p + 1, 1, 0},
		{p + 37, 2, 0},
		{math.MaxUint64, 0, 0},
		{math.MaxUint64, n, 0},
		{math.MaxUint64, math.MaxUint64, 0},
	} {
		if got := group.Times(c.x, c.e); got != c.want {
			t.Errorf("Times(%d, %d) = %d, want %d", c.x, c.e, got, c.want)
		}
	}
}

func TestP801TimesOfElements(t *testing.T) {
	for _, x := range inside() {
		for _, e := range powers() {
			checkTimes(t, x, e)
		}
	}
	l, to := elements(4000), spread(4000)
	for i := range l {
		checkTimes(t, l[i], to[i])
	}
}

// To the power 0, too, of which modp.Pow makes 1 whatever the number is.
func TestP801TimesOfOtherNumbers(t *testing.T) {
	for _, x := range outside() {
		for _, e := range powers() {
			if got := group.Times(x, e); got != 0 {
				t.Errorf("Times(%d, %d) = %d, want 0", x, e, got)
			}
		}
	}
}

func TestP801TimesToNamedExponents(t *testing.T) {
	for _, x := range inside() {
		for k := range uint64(9) {
			for _, c := range []struct{ e, want uint64 }{
				{k * n, 1},
				{k*n + 1, x},
				{k*n + 2, modp.Mul(x, x)},
			} {
				if got := group.Times(x, c.e); got != c.want {
					t.Errorf("Times(%d, %d) = %d, want %d", x, c.e, got, c.want)
				}
			}
		}
		for k := uint64(1); k < 9; k++ {
			if got, want := group.Times(x, k*n-1), modp.Inv(x); got != want {
				t.Errorf("Times(%d, %d) = %d, want %d", x, k*n-1, got, want)
			}
		}
	}
}

// 1 stays 1, and P-1 is -1: its powers tell even exponents from odd ones.
func TestP801TimesOfTheEnds(t *testing.T) {
	for _, e := range append(powers(), spread(1000)...) {
		if got := group.Times(1, e); got != 1 {
			t.Errorf("Times(1, %d) = %d", e, got)
		}
		want := uint64(1)
		if e%2 == 1 {
			want = p - 1
		}
		if got := group.Times(p-1, e); got != want {
			t.Errorf("Times(P-1, %d) = %d, want %d", e, got, want)
		}
	}
}

func TestP801BaseFixedNumbers(t *testing.T) {
	for _, c := range []struct{ e, want uint64 }{
		{0, 1},
		{1, 37},
		{2, 1369},
		{3, 50653},
		{4, 1874161},
		{5, 69343957},
		{11, 177917621779460413},
		{12, 1971265987412647379},
		{13, 1455708248643440542},
		{1000, 1999939773940129385},
		{n / 2, p - 1},
		{n - 2, 1990873949518324507},
		{n - 1, 2181202846553494278},
		{n, 1},
		{n + 1, 37},
		{2*n + 7, 94931877133},
		{8 * n, 1},
		{1 << 60, 2305843009213693914},
		{1 << 61, 1369},
		{1 << 63, 3512479453921},
		{0x0123456789abcdef, 873939793904752982},
		{math.MaxUint64, 616232432238528334},
	} {
		if got := group.Base(c.e); got != c.want {
			t.Errorf("Base(%d) = %d, want %d", c.e, got, c.want)
		}
	}
}

func TestP801Base(t *testing.T) {
	for _, e := range append(powers(), spread(3000)...) {
		if got, want := group.Base(e), times(api.G, e); got != want {
			t.Errorf("Base(%d) = %d, want %d", e, got, want)
		}
		if got, want := group.Base(e), group.Times(api.G, e); got != want {
			t.Errorf("Base(%d) = %d, but Times of G = %d", e, got, want)
		}
	}
}

// All elements are powers of the generator: so no exponent below N but 0 gives 1,
// for which it is enough that N divided by each of its prime factors does not.
func TestP801BaseGenerates(t *testing.T) {
	for _, d := range []uint64{2, 3, 5, 7, 11, 13, 31, 41, 61, 151, 331, 1321} {
		if n%d != 0 {
			t.Fatalf("%d does not divide N", d)
		}
		if got := group.Base(n / d); got == 1 || group.Times(got, d) != 1 {
			t.Errorf("Base(N/%d) = %d, and that to the power %d = %d", d, got, d, group.Times(got, d))
		}
	}
}

func TestP801ProductFixedNumbers(t *testing.T) {
	for _, c := range []struct {
		l    []uint64
		want uint64
	}{
		{nil, 1},
		{[]uint64{}, 1},
		{[]uint64{7, 8}[:0], 1},
		{[]uint64{1}, 1},
		{[]uint64{5}, 5},
		{[]uint64{p - 1}, p - 1},
		{[]uint64{p - 1, p - 1}, 1},
		{[]uint64{p - 1, p - 1, p - 1}, p - 1},
		{[]uint64{2, 3, 7}, 42},
		{[]uint64{1 << 60, 2}, 1},
		{[]uint64{1 << 60, 1 << 60}, 1 << 59},
		{[]uint64{123456789012345678, 987654321098765432}, 1974130249480659620},
		{[]uint64{123456789012345678, 987654321098765432, 81985529216486895, 2177342782468422681, 37}, 1281772482989441862},
		{[]uint64{1, 2, 3, 4, 5, 6, 7, 8, 9, 10, 11, 12, 13, 14, 15, 16, 17, 18, 19, 20}, 127058998962946049},
		{[]uint64{0}, 0},
		{[]uint64{p}, 0},
		{[]uint64{p + 1}, 0},
		{[]uint64{math.MaxUint64}, 0},
		{[]uint64{0, 0}, 0},
		{[]uint64{p + 1, p + 1}, 0},
		{[]uint64{2, math.MaxUint64, 3}, 0},
	} {
		if got := group.Product(c.l); got != c.want {
			t.Errorf("Product(%v) = %d, want %d", c.l, got, c.want)
		}
	}
}

func TestP801ProductOfOne(t *testing.T) {
	for _, x := range inside() {
		if got := group.Product([]uint64{x}); got != x {
			t.Errorf("Product of %d alone = %d", x, got)
		}
	}
	for _, x := range outside() {
		if got := group.Product([]uint64{x}); got != 0 {
			t.Errorf("Product of %d alone = %d, want 0", x, got)
		}
	}
}

func TestP801ProductOfTwo(t *testing.T) {
	l := append(inside()[:60], outside()...)
	for _, a := range l {
		for _, b := range l {
			checkProduct(t, []uint64{a, b})
		}
	}
}

func TestP801ProductOfMany(t *testing.T) {
	for count := range 200 {
		checkProduct(t, elements(count))
	}
	checkProduct(t, inside())
	checkProduct(t, elements(20000))
	var l []uint64
	for x := range uint64(100) {
		l = append(l, x+1)
	}
	if got := group.Product(l); got != 549389702849517455 {
		t.Errorf("Product of 1 to 100 = %d", got)
	}
}

// A number that stands in the list several times counts as often.
func TestP801ProductOfEqualNumbers(t *testing.T) {
	for _, x := range inside() {
		for _, count := range []int{2, 3, 10, 100} {
			l := slices.Repeat([]uint64{x}, count)
			if got, want := group.Product(l), times(x, uint64(count)); got != want {
				t.Errorf("Product of %d times %d = %d, want %d", count, x, got, want)
			}
		}
		if got := group.Product([]uint64{x, modp.Inv(x)}); got != 1 {
			t.Errorf("Product of %d and its inverse = %d", x, got)
		}
	}
}

// At every place, and so at the beginning, in the middle and at the end.
func TestP801ProductWithAnotherNumber(t *testing.T) {
	for _, x := range outside() {
		for _, count := range []int{1, 2, 3, 4, 9, 50} {
			for at := range count {
				l := elements(count)
				l[at] = x
				if got := group.Product(l); got != 0 {
					t.Errorf("Product of %d numbers with %d at %d = %d, want 0", count, x, at, got)
				}
			}
		}
	}
}

// What follows the first number that is no element changes nothing any more.
func TestP801ProductWithOtherNumbers(t *testing.T) {
	for _, a := range outside() {
		for _, b := range outside() {
			for _, l := range [][]uint64{{a, b}, {a, 5, b}, {5, a, b}, {a, b, 5}, {5, a, 6, b, 7}} {
				if got := group.Product(l); got != 0 {
					t.Errorf("Product(%v) = %d, want 0", l, got)
				}
			}
		}
	}
}

func TestP801ProductInAnyOrder(t *testing.T) {
	l := elements(100)
	want := group.Product(l)
	slices.Reverse(l)
	if got := group.Product(l); got != want {
		t.Errorf("Product in reverse = %d, want %d", got, want)
	}
	slices.Sort(l)
	if got := group.Product(l); got != want {
		t.Errorf("Product of the sorted numbers = %d, want %d", got, want)
	}
}

func TestP801BytesTable(t *testing.T) {
	for _, c := range []struct {
		x    uint64
		want []byte
	}{
		{0, []byte{0, 0, 0, 0, 0, 0, 0, 0}},
		{1, []byte{0, 0, 0, 0, 0, 0, 0, 1}},
		{37, []byte{0, 0, 0, 0, 0, 0, 0, 37}},
		{256, []byte{0, 0, 0, 0, 0, 0, 1, 0}},
		{0x0102030405060708, []byte{1, 2, 3, 4, 5, 6, 7, 8}},
		{0xfedcba9876543210, []byte{0xfe, 0xdc, 0xba, 0x98, 0x76, 0x54, 0x32, 0x10}},
		{p - 1, []byte{31, 255, 255, 255, 255, 255, 255, 254}},
		{p, []byte{31, 255, 255, 255, 255, 255, 255, 255}},
		{p + 1, []byte{32, 0, 0, 0, 0, 0, 0, 0}},
		{1 << 63, []byte{128, 0, 0, 0, 0, 0, 0, 0}},
		{math.MaxUint64, []byte{255, 255, 255, 255, 255, 255, 255, 255}},
	} {
		if got := group.Bytes(c.x); !bytes.Equal(got, c.want) {
			t.Errorf("Bytes(%d) = %v, want %v", c.x, got, c.want)
		}
	}
}

// 8 bytes always, with nothing ahead of them, whether or not it is an element.
func TestP801Bytes(t *testing.T) {
	for _, x := range slices.Concat(inside(), outside(), spread(3000)) {
		checkBytes(t, x)
	}
	for bit := range 64 {
		checkBytes(t, 1<<bit)
		checkBytes(t, 1<<bit-1)
	}
}

// checkTwice has both consequences, for one number and two exponents.
func checkTwice(t *testing.T, x, a, b uint64) {
	t.Helper()
	if got, want := group.Times(group.Times(x, a), b), group.Times(x, scalar.Mul(a, b)); got != want {
		t.Errorf("%d to the power %d, then %d = %d, want %d", x, a, b, got, want)
	}
	if got, want := group.Times(group.Times(x, b), a), group.Times(group.Times(x, a), b); got != want {
		t.Errorf("%d to the power %d, then %d = %d, want %d", x, b, a, got, want)
	}
	both := []uint64{group.Times(x, a), group.Times(x, b)}
	want := group.Times(x, scalar.Add(a, b))
	if got := group.Product(both); got != want {
		t.Errorf("Product of %d to the powers %d and %d = %d, want %d", x, a, b, got, want)
	}
	if got := modp.Mul(both[0], both[1]); got != want {
		t.Errorf("Mul of %d to the powers %d and %d = %d, want %d", x, a, b, got, want)
	}
}

func TestP802ConsequencesForElements(t *testing.T) {
	for _, x := range []uint64{1, 2, 3, 37, 1 << 31, 1 << 60, p / 2, p - 37, p - 2, p - 1, 0x0123456789abcdef} {
		for _, a := range powers() {
			for _, b := range powers() {
				checkTwice(t, x, a, b)
			}
		}
	}
	l, a, b := elements(2000), spread(2001), spread(2002)
	for i, x := range l {
		checkTwice(t, x, a[i], b[i])
	}
}

// 0 is what both ways give, whatever the exponents.
func TestP802ConsequencesForOtherNumbers(t *testing.T) {
	l := spread(30)
	for _, x := range outside() {
		for i := range len(l) - 1 {
			checkTwice(t, x, l[i], l[i+1])
		}
		checkTwice(t, x, 0, 0)
		checkTwice(t, x, 0, math.MaxUint64)
		checkTwice(t, x, n, n)
	}
}

func TestP802ConsequencesForTheGenerator(t *testing.T) {
	for _, a := range powers() {
		for _, b := range powers() {
			if got, want := group.Times(group.Base(a), b), group.Base(scalar.Mul(a, b)); got != want {
				t.Errorf("Base(%d) to the power %d = %d, want %d", a, b, got, want)
			}
			if got, want := group.Product([]uint64{group.Base(a), group.Base(b)}), group.Base(scalar.Add(a, b)); got != want {
				t.Errorf("Product of Base(%d) and Base(%d) = %d, want %d", a, b, got, want)
			}
		}
	}
}

// What comes of an element is one.
func TestP802ResultsAreElements(t *testing.T) {
	l := elements(500)
	for i, e := range spread(500) {
		for _, x := range []uint64{group.Times(l[i], e), group.Base(e), group.Product(l[:i])} {
			if !group.Right(x) {
				t.Errorf("%d is no element", x)
			}
		}
	}
}

// lists have other numbers in the room behind them, elements and not; some have a
// number that is no element within, too.
func lists() [][]uint64 {
	var all [][]uint64
	for count := range 30 {
		all = append(all, elements(count + 9)[:count], append(elements(count), 0, p)[:count])
		for _, x := range []uint64{0, p + 1, math.MaxUint64} {
			l := elements(count + 9)
			l[count/2] = x
			all = append(all, l[:count])
		}
	}
	return all
}

func TestP802ProductLeavesItsArgument(t *testing.T) {
	for _, l := range lists() {
		all := l[:cap(l)]
		before := slices.Clone(all)
		group.Product(l)
		if !slices.Equal(all, before) {
			t.Errorf("Product wrote into its %d numbers or behind them", len(l))
		}
	}
}

// What stands behind the list is not the list's.
func TestP802ProductTakesTheLengthOnly(t *testing.T) {
	for _, l := range lists() {
		checkProduct(t, l)
		if got, want := group.Product(l), group.Product(slices.Clone(l)); got != want {
			t.Errorf("Product of %d numbers with others behind them = %d, want %d", len(l), got, want)
		}
	}
}

func TestP802ProductDoesNotKeepItsArgument(t *testing.T) {
	for count := 1; count < 50; count++ {
		l := elements(count)
		first := group.Product(l)
		for i := range l {
			l[i] = uint64(i) + 2
		}
		checkProduct(t, l)
		l[count-1] = 0
		checkProduct(t, l)
		if again := group.Product(elements(count)); again != first {
			t.Errorf("Product of the same %d numbers = %d, then %d", count, first, again)
		}
	}
}

// Neither the bytes themselves nor the room behind them.
func TestP802ResultsAreNotShared(t *testing.T) {
	for _, x := range []uint64{0, 1, 37, p - 1, math.MaxUint64} {
		first, second := group.Bytes(x), group.Bytes(x)
		all := first[:cap(first)]
		for i := range all {
			all[i] ^= 0x5a
		}
		if !bytes.Equal(second, digits(x)) {
			t.Errorf("two results of Bytes(%d) share memory", x)
		}
		checkBytes(t, x)
	}
}

// answer has what all functions return for the same arguments.
type answer struct {
	right                 bool
	times, base, all, one uint64
	bytes                 [8]byte
}

func answers(a, b uint64) answer {
	return answer{
		group.Right(a), group.Times(a, b), group.Base(a), group.Product([]uint64{a, b, a}),
		group.Product([]uint64{b}), [8]byte(group.Bytes(a)),
	}
}

func wanted(a, b uint64) answer {
	return answer{
		isElement(a), times(a, b), times(api.G, a), product([]uint64{a, b, a}),
		product([]uint64{b}), [8]byte(digits(a)),
	}
}

// A second run in another order would show one call's trace in the next.
func TestP802ResultsDependOnArgumentsOnly(t *testing.T) {
	l := slices.Concat(spread(300), []uint64{0, 1, n, p - 1, p, p + 1, math.MaxUint64, 0}, elements(300))
	first := make([]answer, len(l)-1)
	for i := range first {
		first[i] = answers(l[i], l[i+1])
	}
	for i := len(first) - 1; i >= 0; i-- {
		answers(l[i+1], l[i])
		if again := answers(l[i], l[i+1]); again != first[i] {
			t.Errorf("%d, %d: %v, then %v", l[i], l[i+1], first[i], again)
		}
		if want := wanted(l[i], l[i+1]); want != first[i] {
			t.Errorf("%d, %d: %v, want %v", l[i], l[i+1], first[i], want)
		}
	}
}

func TestP802CallsAtOnce(t *testing.T) {
	shared := elements(200)
	want := product(shared)
	var wait sync.WaitGroup
	for k := range 16 {
		wait.Go(func() {
			l := append(spread(60+k), elements(60+k)...)
			for i := range len(l) - 1 {
				if got, want := answers(l[i], l[i+1]), wanted(l[i], l[i+1]); got != want {
					t.Errorf("%d, %d beside other calls: %v, want %v", l[i], l[i+1], got, want)
				}
			}
			if got := group.Product(shared); got != want {
				t.Errorf("Product of a list that others read too = %d, want %d", got, want)
			}
		})
	}
	wait.Wait()
}
