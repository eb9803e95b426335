package proof_test

import (
	"crypto/sha256"
	"encoding/binary"
	"math"
	"math/big"
	"slices"
	"strings"
	"sync"
	"testing"

	"courierbag/api"
	"courierbag/group"
	"courierbag/proof"
)

const (
	p = api.P
	n = api.N
)

// known is the statement of Know and CheckKnow, and same that of Equal and
// CheckEqual.
type (
	known struct{ g, x uint64 }
	same  struct{ g, x, h, y uint64 }
)

func (k known) numbers() []uint64 { return []uint64{k.g, k.x} }
func (s same) numbers() []uint64  { return []uint64{s.g, s.x, s.h, s.y} }

func (k known) know(secret, draw uint64) api.Proof { return proof.Know(k.g, k.x, secret, draw) }
func (s same) equal(secret, draw uint64) api.Proof {
	return proof.Equal(s.g, s.x, s.h, s.y, secret, draw)
}

func (k known) check(q api.Proof) bool { return proof.CheckKnow(k.g, k.x, q) }
func (s same) check(q api.Proof) bool  { return proof.CheckEqual(s.g, s.x, s.h, s.y, q) }

func knownOf(l []uint64) known { return known{l[0], l[1]} }
func sameOf(l []uint64) same   { return same{l[0], l[1], l[2], l[3]} }

// powerOf and powersOf are true statements.
func powerOf(g, secret uint64) known { return known{g, times(g, secret)} }
func powersOf(g, h, secret uint64) same {
	return same{g, times(g, secret), h, times(h, secret)}
}

func number(x uint64) *big.Int { return new(big.Int).SetUint64(x) }

func isElement(x uint64) bool {
	return number(x).Sign() == 1 && number(x).Cmp(number(p)) == -1
}

// times, challenge, answer and drawn are by Go's own big numbers and digests.
func times(x, e uint64) uint64 {
	if !isElement(x) {
		return 0
	}
	return new(big.Int).Exp(number(x), number(e), number(p)).Uint64()
}

func challenge(name string, l ...uint64) uint64 {
	b := binary.BigEndian.AppendUint64(nil, uint64(len(name)))
	b = append(b, name...)
	for _, x := range l {
		b = binary.BigEndian.AppendUint64(b, 8)
		b = binary.BigEndian.AppendUint64(b, x)
	}
	sum := sha256.Sum256(b)
	all := new(big.Int).SetBytes(sum[:])
	return all.Mod(all, number(n)).Uint64()
}

func answer(c, secret, draw uint64) api.Proof {
	s := new(big.Int).Mul(number(c), number(secret))
	s.Sub(number(draw), s)
	return api.Proof{C: c, S: s.Mod(s, number(n)).Uint64()}
}

func drawn(g, x uint64, q api.Proof) uint64 {
	t := new(big.Int).Mul(number(times(g, q.S)), number(times(x, q.C)))
	return t.Mod(t, number(p)).Uint64()
}

func (k known) wanted(secret, draw uint64) api.Proof {
	return answer(challenge("know", k.g, k.x, times(k.g, draw)), secret, draw)
}

func (s same) wanted(secret, draw uint64) api.Proof {
	c := challenge("equal", s.g, s.x, s.h, s.y, times(s.g, draw), times(s.h, draw))
	return answer(c, secret, draw)
}

func right(q api.Proof, l []uint64) bool {
	return q.C < n && q.S < n && !slices.ContainsFunc(l, func(x uint64) bool { return !isElement(x) })
}

func (k known) valid(q api.Proof) bool {
	return right(q, k.numbers()) && q.C == challenge("know", k.g, k.x, drawn(k.g, k.x, q))
}

func (s same) valid(q api.Proof) bool {
	return right(q, s.numbers()) &&
		q.C == challenge("equal", s.g, s.x, s.h, s.y, drawn(s.g, s.x, q), drawn(s.h, s.y, q))
}

// spread has count numbers of all sizes, always the same.
func spread(count int) []uint64 {
	l := make([]uint64, count)
	x := uint64(count) + 1
	for i := range l {
		x = x*6364136223846793005 + 1442695040888963407
		l[i] = (x ^ x>>29) >> (i % 9 * 7)
	}
	return l
}

// elements has count elements of all sizes, always the same.
func elements(count int) []uint64 {
	l := spread(count)
	for i, x := range l {
		l[i] = x%(p-1) + 1
	}
	return l
}

// outside are numbers that are no elements; most of them are not 0 modulo P.
func outside() []uint64 {
	return []uint64{
		0, p, p + 1, p + 37, 2*p - 1, 2 * p, 2*p + 1, 3*p + 5, 8 * p, 8*p + 1,
		1 << 62, 1<<63 - 1, 1 << 63, math.MaxUint64 - 1, math.MaxUint64,
	}
}

// bases are elements, of which the first two have the orders 1 and 2.
func bases() []uint64 {
	return []uint64{1, p - 1, 2, 37, 1 << 40, p / 2, p - 2, 0x0123456789abcdef}
}

// wide are elements of great orders, whose powers tell nearly all exponents apart.
func wide() []uint64 {
	return []uint64{37, 5, 11, p - 37, 0x0123456789abcdef, 123456789012345678}
}

// edges are secrets and draws at the ends of the ranges, at and beside the multiples
// of N.
func edges() []uint64 {
	return []uint64{
		0, 1, 2, 12345, n / 2, n - 2, n - 1, n, n + 1, n + 7, 2*n - 1, 2 * n, 2*n + 1,
		8*n - 1, 8 * n, 8*n + 1, 1 << 61, 1 << 63, math.MaxUint64 - 1, math.MaxUint64,
	}
}

func checkChallenge(t *testing.T, name string, l []uint64) {
	t.Helper()
	got := proof.Challenge(name, l)
	if want := challenge(name, l...); got != want {
		t.Errorf("Challenge(%.20q, %d numbers %v) = %d, want %d", name, len(l), l[:min(8, len(l))], got, want)
	}
	if got >= n {
		t.Errorf("Challenge(%.20q, %d numbers) = %d, not below N", name, len(l), got)
	}
}

// checkKnow has Know by the rule, and CheckKnow of what it returns.
func checkKnow(t *testing.T, k known, secret, draw uint64) {
	t.Helper()
	q := k.know(secret, draw)
	if want := k.wanted(secret, draw); q != want {
		t.Errorf("Know(%v, %d, %d) = %v, want %v", k, secret, draw, q, want)
	}
	if got, want := k.check(q), k.valid(q); got != want {
		t.Errorf("CheckKnow(%v, %v) = %v, want %v", k, q, got, want)
	}
}

func checkEqual(t *testing.T, s same, secret, draw uint64) {
	t.Helper()
	q := s.equal(secret, draw)
	if want := s.wanted(secret, draw); q != want {
		t.Errorf("Equal(%v, %d, %d) = %v, want %v", s, secret, draw, q, want)
	}
	if got, want := s.check(q), s.valid(q); got != want {
		t.Errorf("CheckEqual(%v, %v) = %v, want %v", s, q, got, want)
	}
}

// wrong has what can be checked of either kind.
type wrong interface {
	check(api.Proof) bool
	valid(api.Proof) bool
}

// mustNot takes it that the statement or the proof is none, so that a mistake in the
// test itself shows, too.
func mustNot(t *testing.T, w wrong, q api.Proof) {
	t.Helper()
	if w.check(q) {
		t.Errorf("%v: %v is said to be valid", w, q)
	}
	if w.valid(q) {
		t.Errorf("%v: %v is valid", w, q)
	}
}

func must(t *testing.T, w wrong, q api.Proof) {
	t.Helper()
	if !w.check(q) {
		t.Errorf("%v: %v is said not to be valid", w, q)
	}
	if !w.valid(q) {
		t.Errorf("%v: %v is not valid", w, q)
	}
}

// These numbers were computed apart from any Go program, and so were those of Know
// and Equal.
func TestP901ChallengeFixedNumbers(t *testing.T) {
	const top = math.MaxUint64
	var rising []uint64
	for x := range uint64(1000) {
		rising = append(rising, x)
	}
	for _, c := range []struct {
		name string
		l    []uint64
		want uint64
	}{
		{"", nil, 631274261685239990},
		{"", []uint64{}, 631274261685239990},
		{"", []uint64{7, 8}[:0], 631274261685239990},
		{"", []uint64{0}, 1925349525847622212},
		{"", []uint64{1}, 1787545903686267481},
		{"\x00\x00\x00\x00\x00\x00\x00\x01", nil, 162757013032324284},
		{"know", nil, 910775178835153807},
		{"equal", nil, 1557938140870364201},
		{"know", []uint64{37, 37, 37}, 1036163255286243321},
		{"name", []uint64{1, 2, 3}, 2100572435892991591},
		{"name", []uint64{3, 2, 1}, 599823273379923171},
		{"name", []uint64{p - 1, p, p + 1}, 1428492595564782656},
		{"", []uint64{top, top, top, top, top}, 612425712643540768},
		{"\xff\x00\xc3\xa9\n", []uint64{0, n, 1 << 63}, 1027020471924670791},
		{strings.Repeat("a", 1000), rising, 213920113899908964},
	} {
		if got := proof.Challenge(c.name, c.l); got != c.want {
			t.Errorf("Challenge(%.20q, %d numbers) = %d, want %d", c.name, len(c.l), got, c.want)
		}
	}
}

// names are of all lengths around those of a digest's blocks, and of bytes that are
// no text.
func names() []string {
	l := []string{"", "\x00", "know", "equal", "Know", "know ", "éà", "\xff\xfe", "\xc3", "a\x00b", "\ufffd"}
	for count := range 140 {
		l = append(l, strings.Repeat("n", count))
	}
	return append(l, strings.Repeat("\x00", 5000), strings.Repeat("long", 70000))
}

func TestP901ChallengeOfNames(t *testing.T) {
	for _, name := range names() {
		checkChallenge(t, name, nil)
		checkChallenge(t, name, []uint64{0})
		checkChallenge(t, name, []uint64{37, p - 1, math.MaxUint64})
	}
}

func TestP901ChallengeOfNumbers(t *testing.T) {
	for _, name := range []string{"", "know", "equal", "name"} {
		for count := range 100 {
			checkChallenge(t, name, spread(count))
		}
		checkChallenge(t, name, outside())
		checkChallenge(t, name, spread(20000))
		for _, x := range slices.Concat(outside(), bases(), edges()) {
			checkChallenge(t, name, []uint64{x})
			checkChallenge(t, name, []uint64{5, x})
			checkChallenge(t, name, []uint64{x, x, 5, x})
		}
	}
}

// Not even what is the same bytes, or the same modulo P or N, has the same challenge.
func TestP901ChallengesDiffer(t *testing.T) {
	seen := map[uint64]int{}
	for i, c := range []struct {
		name string
		l    []uint64
	}{
		{"", nil},
		{"\x00\x00\x00\x00\x00\x00\x00\x00", nil},
		{"", []uint64{0}},
		{"", []uint64{0, 0}},
		{"\x00", []uint64{0}},
		{"", []uint64{8}},
		{"", []uint64{1, 2}},
		{"", []uint64{2, 1}},
		{"\x00\x00\x00\x00\x00\x00\x00\x01", []uint64{2}},
		{"", []uint64{1, 2, 0}},
		{"", []uint64{0, 1, 2}},
		{"", []uint64{5}},
		{"", []uint64{5 + p}},
		{"", []uint64{5 + n}},
		{"know", []uint64{5}},
		{"equal", []uint64{5}},
		{"KNOW", []uint64{5}},
	} {
		got := proof.Challenge(c.name, c.l)
		if before, ok := seen[got]; ok {
			t.Errorf("rows %d and %d have the same challenge %d", before, i, got)
		}
		seen[got] = i
	}
}

func TestP901KnowFixedNumbers(t *testing.T) {
	const top = math.MaxUint64
	for _, c := range []struct {
		k            known
		secret, draw uint64
		want         api.Proof
		valid        bool
	}{
		{known{37, 69343957}, 5, 99, api.Proof{C: 336355700083272063, S: 624064508797333734}, true},
		{known{37, 1}, 0, 0, api.Proof{C: 568723940603138543, S: 0}, true},
		{known{37, 2181202846553494278}, n - 1, n - 1, api.Proof{C: 1484285506337451842, S: 1484285506337451841}, true},
		{known{37, 1}, n, n, api.Proof{C: 568723940603138543, S: 0}, true},
		{known{37, 37}, n + 1, 1, api.Proof{C: 1036163255286243321, S: 1269679753927450630}, true},
		{known{37, 616232432238528334}, top, top, api.Proof{C: 637321544711773703, S: 1969391875391864220}, true},
		{known{1, 1}, 7, 9, api.Proof{C: 576660510450586432, S: 575062445273282885}, true},
		{known{p - 1, p - 1}, 3, 4, api.Proof{C: 1004098002037095811, S: 1599392012316100471}, true},
		{known{2, 2}, 1 << 60, 1 << 59, api.Proof{C: 1232065437607009932, S: 1650238323910107506}, true},
		{known{123456789012345678, 228779911208474777}, 987654321098765432, 81985529216486895, api.Proof{C: 2059203883429517144, S: 54485885549787887}, true},
		{known{37, 3512479453921}, 1 << 63, 1 << 62, api.Proof{C: 1559688890358539711, S: 1357546932413846016}, true},
		{known{0, 0}, 0, 0, api.Proof{C: 596552295873850353, S: 0}, false},
		{known{0, 1}, 5, 6, api.Proof{C: 968746067935167641, S: 2073798687965243651}, false},
		{known{p, p}, 1, 1, api.Proof{C: 1065954856216391224, S: 1239888152997302727}, false},
		{known{p + 37, 37}, 5, 7, api.Proof{C: 908197285915965531, S: 70699588847560252}, false},
		{known{top, top}, top, top, api.Proof{C: 900034000481597910, S: 334548048058195065}, false},
		{known{37, 0}, 5, 7, api.Proof{C: 947964080162429351, S: 2177708626828935102}, false},
		{known{37, p}, 5, 7, api.Proof{C: 306612645616261433, S: 772779781132386792}, false},
		{known{37, 38}, 5, 7, api.Proof{C: 300355760006471509, S: 804064209181336412}, false},
		{known{37, top}, 0, 3, api.Proof{C: 357779210677715419, S: 3}, false},
	} {
		if got := c.k.know(c.secret, c.draw); got != c.want {
			t.Errorf("Know(%v, %d, %d) = %v, want %v", c.k, c.secret, c.draw, got, c.want)
		}
		if got := c.k.check(c.want); got != c.valid {
			t.Errorf("CheckKnow(%v, %v) = %v", c.k, c.want, got)
		}
	}
}

func TestP901EqualFixedNumbers(t *testing.T) {
	const top = math.MaxUint64
	for _, c := range []struct {
		s            same
		secret, draw uint64
		want         api.Proof
		valid        bool
	}{
		{same{37, 69343957, 11, 161051}, 5, 99, api.Proof{C: 848950530511972900, S: 366933365867523499}, true},
		{same{37, 69343957, 37, 69343957}, 5, 99, api.Proof{C: 402333797227253490, S: 294174023077426599}, true},
		{same{37, 1, 1, 1}, 0, 0, api.Proof{C: 1756923766470121661, S: 0}, true},
		{same{1, 1, 37, 1874161}, 4, 5, api.Proof{C: 1249647710536604855, S: 1918938185494662435}, true},
		{same{p - 1, p - 1, 2, 1 << 60}, n - 1, n - 1, api.Proof{C: 2170709300317615787, S: 2170709300317615786}, true},
		{same{37, 1, 1 << 40, 1}, n, n, api.Proof{C: 763830973857630760, S: 0}, true},
		{same{5, 30517578125, 7, 4747561509943}, top, top, api.Proof{C: 2164109219661145476, S: 2126006843288227125}, true},
		{same{123456789012345678, 228779911208474777, 2177342782468422681, 1368059238874592124}, 987654321098765432, 81985529216486895, api.Proof{C: 1415165791612780188, S: 928240786569500529}, true},
		{same{1, 1, 1, 1}, 1, 1, api.Proof{C: 924964951075262274, S: 1380878058138431677}, true},
		{same{0, 0, 0, 0}, 0, 0, api.Proof{C: 1010413633910317577, S: 0}, false},
		{same{37, 1369, 0, 0}, 2, 9, api.Proof{C: 1301309217575984190, S: 2009067583275419529}, false},
		{same{0, 0, 37, 1369}, 2, 9, api.Proof{C: 701636858230205034, S: 902569292753283891}, false},
		{same{p, p + 1, p + 2, p + 3}, 5, 6, api.Proof{C: 287230833959429409, S: 869688839416546911}, false},
		{same{37, 1369, 5, 26}, 2, 9, api.Proof{C: 2053705784150269122, S: 504274450126849665}, false},
		{same{37, 1370, 5, 25}, 2, 9, api.Proof{C: 2285462002076040017, S: 40762014275307875}, false},
		{same{top, top, top, top}, top, top, api.Proof{C: 1894434291216777759, S: 1559444751526354980}, false},
	} {
		if got := c.s.equal(c.secret, c.draw); got != c.want {
			t.Errorf("Equal(%v, %d, %d) = %v, want %v", c.s, c.secret, c.draw, got, c.want)
		}
		if got := c.s.check(c.want); got != c.valid {
			t.Errorf("CheckEqual(%v, %v) = %v", c.s, c.want, got)
		}
	}
}

// Of any numbers: what Know returns does not hang on whether they are elements, or
// whether x is the power.
func TestP901Know(t *testing.T) {
	var l []uint64
	l = append(append(l, bases()...), outside()...)
	for _, g := range l {
		for _, x := range l {
			checkKnow(t, known{g, x}, 12345, 99)
			checkKnow(t, known{g, x}, 0, 0)
			checkKnow(t, known{g, x}, math.MaxUint64, n)
		}
	}
	g, x, secret, draw := spread(2000), spread(2001), spread(2002), spread(2003)
	for i := range g {
		checkKnow(t, known{g[i], x[i]}, secret[i], draw[i])
	}
}

func TestP901Equal(t *testing.T) {
	l := []uint64{1, 37, p - 1, 0, p, p + 37, math.MaxUint64}
	for _, g := range l {
		for _, x := range l {
			for _, h := range l {
				for _, y := range l {
					checkEqual(t, same{g, x, h, y}, n+12345, 99)
				}
			}
		}
	}
	all := spread(8000)
	for i := range 2000 {
		secret, draw := all[2000+i], all[5000+i]
		checkEqual(t, sameOf(all[3*i:]), secret, draw)
	}
}

func TestP901SecretsAndDraws(t *testing.T) {
	for _, g := range append(bases(), 0, p, math.MaxUint64) {
		for _, secret := range edges() {
			for _, draw := range edges() {
				checkKnow(t, powerOf(g, secret), secret, draw)
				checkEqual(t, powersOf(g, 11, secret), secret, draw)
			}
		}
	}
}

// A secret or draw that differs by N is the same: so are all powers and the answer.
func TestP901SecretsAndDrawsModuloN(t *testing.T) {
	for _, low := range []uint64{0, 1, 12345, n - 2, n - 1} {
		k, s := powerOf(37, low), powersOf(37, 11, low)
		first, second := k.know(low, low), s.equal(low, low)
		for i := range uint64(7) {
			for _, c := range [][2]uint64{{low + i*n, low}, {low, low + i*n}, {low + i*n, low + i*n}} {
				if got := k.know(c[0], c[1]); got != first {
					t.Errorf("Know(%v, %v) = %v, want %v", k, c, got, first)
				}
				if got := s.equal(c[0], c[1]); got != second {
					t.Errorf("Equal(%v, %v) = %v, want %v", s, c, got, second)
				}
			}
		}
	}
}

// A secret of 0 leaves the draw as the answer, so that S can be any number below N.
func TestP901AnswersAtTheEndsOfTheRange(t *testing.T) {
	for _, g := range bases() {
		k, s := powerOf(g, 0), powersOf(g, 11, 0)
		for _, draw := range []uint64{0, 1, n - 2, n - 1} {
			q, r := k.wanted(0, draw), s.wanted(0, draw)
			if q.S != draw || r.S != draw {
				t.Fatalf("the answers are %d and %d, not %d", q.S, r.S, draw)
			}
			must(t, k, q)
			must(t, s, r)
			for i := uint64(1); i < 8; i++ {
				mustNot(t, k, api.Proof{C: q.C, S: draw + i*n})
				mustNot(t, s, api.Proof{C: r.C, S: draw + i*n})
			}
		}
	}
}

// Although C + N and S + N stand for the same powers.
func TestP901CheckOfNumbersNotBelowN(t *testing.T) {
	for i, secret := range append(edges(), spread(30)...) {
		g := append(wide(), elements(50)...)[i]
		k, s := powerOf(g, secret), powersOf(11, g, secret)
		for _, q := range []api.Proof{k.know(secret, 77), s.equal(secret, 77)} {
			for i := uint64(1); i < 8; i++ {
				for _, r := range []api.Proof{
					{C: q.C, S: q.S + i*n}, {C: q.C + i*n, S: q.S}, {C: q.C + i*n, S: q.S + i*n},
				} {
					mustNot(t, k, r)
					mustNot(t, s, r)
				}
			}
			for _, c := range []uint64{n - 1, n, n + 1, p, 1 << 63, math.MaxUint64} {
				for _, r := range []api.Proof{{C: c, S: q.S}, {C: q.C, S: c}, {C: c, S: c}} {
					mustNot(t, k, r)
					mustNot(t, s, r)
				}
			}
		}
		mustNot(t, k, api.Proof{})
		mustNot(t, s, api.Proof{})
	}
}

// changed has l with one of its numbers changed, in all ways that are near at hand.
func changed(l []uint64) [][]uint64 {
	var all [][]uint64
	for at, x := range l {
		others := []uint64{0, 1, 37, p - 1, p, math.MaxUint64, x + 1, x - 1, p - x, x + p, x + n, -x}
		for bit := range 64 {
			others = append(others, x^1<<bit)
		}
		if isElement(x) {
			others = append(others, new(big.Int).ModInverse(number(x), number(p)).Uint64(), times(x, 2))
		}
		for _, other := range others {
			if other != x {
				one := slices.Clone(l)
				one[at] = other
				all = append(all, one)
			}
		}
	}
	return all
}

func TestP901CheckKnowOfAnotherNumber(t *testing.T) {
	for i, secret := range append(edges(), spread(60)...) {
		g := append(wide(), elements(90)...)[i]
		k := powerOf(g, secret)
		q := k.know(secret, 1000003+uint64(i))
		must(t, k, q)
		for _, l := range changed(k.numbers()) {
			mustNot(t, knownOf(l), q)
		}
		for _, l := range changed([]uint64{q.C, q.S}) {
			mustNot(t, k, api.Proof{C: l[0], S: l[1]})
		}
		mustNot(t, k, api.Proof{C: q.S, S: q.C})
	}
}

func TestP901CheckEqualOfAnotherNumber(t *testing.T) {
	for i, secret := range append(edges(), spread(60)...) {
		l := append(wide(), elements(90)...)
		s := powersOf(l[i], l[len(l)-1-i], secret)
		q := s.equal(secret, 1000003+uint64(i))
		must(t, s, q)
		for _, l := range changed(s.numbers()) {
			mustNot(t, sameOf(l), q)
		}
		for _, l := range changed([]uint64{q.C, q.S}) {
			mustNot(t, s, api.Proof{C: l[0], S: l[1]})
		}
		mustNot(t, s, api.Proof{C: q.S, S: q.C})
	}
}

// Another secret than that of the power, and a proof that was made for another power.
func TestP901CheckKnowOfAnotherSecret(t *testing.T) {
	for _, g := range wide() {
		for _, secret := range edges() {
			k := powerOf(g, secret)
			mustNot(t, k, k.know(secret+1, 8))
			mustNot(t, k, powerOf(g, secret+1).know(secret+1, 8))
			mustNot(t, powerOf(g, secret+1), k.know(secret, 8))
		}
	}
}

func TestP901CheckEqualOfUnlikeLogarithms(t *testing.T) {
	for _, g := range wide() {
		for _, secret := range edges() {
			for _, other := range []uint64{secret + 1, secret + 12345} {
				first := same{g, times(g, other), 11, times(11, secret)}
				second := same{g, times(g, secret), 11, times(11, other)}
				for _, by := range []uint64{secret, other} {
					mustNot(t, first, first.equal(by, 8))
					mustNot(t, second, second.equal(by, 8))
				}
			}
		}
	}
}

// The order of the statement counts, and so does the kind of the proof.
func TestP901CheckOfAnotherStatement(t *testing.T) {
	for _, secret := range append(edges(), spread(50)...) {
		s := powersOf(37, 11, secret)
		k := known{s.g, s.x}
		q, r := s.equal(secret, 5), k.know(secret, 5)
		must(t, s, q)
		must(t, k, r)
		mustNot(t, same{s.h, s.y, s.g, s.x}, q)
		mustNot(t, same{s.g, s.h, s.x, s.y}, q)
		mustNot(t, same{s.g, s.x, s.g, s.x}, q)
		mustNot(t, same{s.h, s.y, s.h, s.y}, q)
		mustNot(t, k, q)
		mustNot(t, known{s.h, s.y}, q)
		mustNot(t, s, r)
		mustNot(t, same{s.g, s.x, s.g, s.x}, r)
		mustNot(t, known{s.h, s.y}, r)
		if s.x != s.g {
			mustNot(t, known{s.x, s.g}, r)
		}
	}
}

// pairs have an element and what is none, both ways, and two that are none: that of
// which the first is another number's power, but for a multiple of P, too.
func pairs(secret uint64) []known {
	var all []known
	for _, out := range outside() {
		for _, x := range bases() {
			all = append(all, known{out, x}, known{x, out})
		}
		for _, other := range outside() {
			all = append(all, known{out, other})
		}
	}
	for _, g := range bases() {
		x := times(g, secret)
		all = append(all, known{g + p, x}, known{g, x + p}, known{g + p, x + p}, known{g + 7*p, x})
	}
	return all
}

// What is no element is rejected even where the challenge is right for the product
// that its powers would have, as 0 or modulo P.
func TestP901CheckKnowOfOtherNumbers(t *testing.T) {
	for _, secret := range []uint64{0, 1, 5, n - 1} {
		for _, k := range pairs(secret) {
			mustNot(t, k, k.know(secret, 99))
			for _, product := range []uint64{0, 1, p - 1, p, times(k.g%p, 99)} {
				c := challenge("know", k.g, k.x, product)
				mustNot(t, k, answer(c, secret, 99))
				mustNot(t, k, api.Proof{C: c})
				mustNot(t, k, api.Proof{C: c, S: 12345})
				mustNot(t, k, api.Proof{C: c, S: n - 1})
			}
		}
	}
}

func TestP901CheckEqualOfOtherNumbers(t *testing.T) {
	for _, secret := range []uint64{0, 1, 5, n - 1} {
		good := powerOf(11, secret)
		for _, k := range pairs(secret) {
			for _, s := range []same{{k.g, k.x, good.g, good.x}, {good.g, good.x, k.g, k.x}, {k.g, k.x, k.g, k.x}} {
				mustNot(t, s, s.equal(secret, 99))
				first, second := times(s.g%p, 99), times(s.h%p, 99)
				for _, products := range [][2]uint64{{0, second}, {first, 0}, {0, 0}, {1, second}, {first, 1}, {first, second}} {
					c := challenge("equal", s.g, s.x, s.h, s.y, products[0], products[1])
					mustNot(t, s, answer(c, secret, 99))
					mustNot(t, s, api.Proof{C: c})
				}
			}
		}
	}
}

// The power of a base of the order 1 or 2 does not tell its exponent: so another
// answer is valid, too.
func TestP901CheckOfSmallOrders(t *testing.T) {
	one, two := powerOf(1, 7), powerOf(p-1, 7)
	q, r := one.know(7, 9), two.know(7, 9)
	both := powersOf(1, p-1, 7)
	b := both.equal(7, 9)
	for _, s := range append([]uint64{0, 1, n - 1}, spread(300)...) {
		s %= n
		must(t, one, api.Proof{C: q.C, S: s})
		w := api.Proof{C: r.C, S: s}
		if got, want := two.check(w), (s^r.S)&1 == 0; got != want {
			t.Errorf("CheckKnow(%v, %v) = %v", two, w, got)
		}
		w = api.Proof{C: b.C, S: s}
		if got, want := both.check(w), (s^b.S)&1 == 0; got != want {
			t.Errorf("CheckEqual(%v, %v) = %v", both, w, got)
		}
	}
}

// Of -x instead of x, the half of the challenges that is even gives the same power: so
// a proof can be valid although the statement is not true.
func TestP901CheckOfTheOtherSign(t *testing.T) {
	for _, g := range append(wide(), bases()...) {
		for _, secret := range append(edges(), spread(20)...) {
			k, s := powerOf(g, secret), powersOf(11, g, secret)
			k.x, s.y = p-k.x, p-s.y
			q, r := k.wanted(secret, 99), s.wanted(secret, 99)
			if got, want := k.check(q), q.C%2 == 0; got != want {
				t.Errorf("CheckKnow(%v, %v) = %v, want %v", k, q, got, want)
			}
			if got, want := s.check(r), r.C%2 == 0; got != want {
				t.Errorf("CheckEqual(%v, %v) = %v, want %v", s, r, got, want)
			}
		}
	}
}

// And so it is for other small orders, of which neither number has to be the power of
// the other.
func TestP901CheckOfLuckyChallenges(t *testing.T) {
	var small []uint64
	for _, order := range []uint64{1, 2, 3, 5, 6, 7} {
		small = append(small, times(api.G, n/order))
	}
	count := [2]int{}
	for _, g := range small {
		for _, x := range small {
			for s := range uint64(20) {
				k := known{g, x}
				q := api.Proof{C: challenge("know", g, x, times(g, s)), S: s}
				if got, want := k.check(q), k.valid(q); got != want {
					t.Errorf("CheckKnow(%v, %v) = %v, want %v", k, q, got, want)
				} else if got && x != 1 {
					count[0]++
				}
				both := same{37, 1, g, x}
				q = api.Proof{C: challenge("equal", 37, 1, g, x, times(37, s), times(g, s)), S: s}
				if got, want := both.check(q), both.valid(q); got != want {
					t.Errorf("CheckEqual(%v, %v) = %v, want %v", both, q, got, want)
				} else if got && x != 1 {
					count[1]++
				}
			}
		}
	}
	if count[0] == 0 || count[1] == 0 {
		t.Errorf("no challenge was lucky: %v", count)
	}
}

func TestP901CheckOfArbitraryNumbers(t *testing.T) {
	l := spread(30000)
	for i := range len(l) - 6 {
		mustNot(t, knownOf(l[i:]), api.Proof{C: l[i+4], S: l[i+5]})
		mustNot(t, sameOf(l[i:]), api.Proof{C: l[i+4] % n, S: l[i+5] % n})
	}
}

// With group's own powers, by which servers make what they prove.
func TestP902ProofsAreValid(t *testing.T) {
	for _, g := range bases() {
		for _, h := range bases() {
			for _, secret := range edges() {
				x, y := group.Times(g, secret), group.Times(h, secret)
				for _, draw := range edges() {
					if q := proof.Know(g, x, secret, draw); !proof.CheckKnow(g, x, q) {
						t.Errorf("Know(%d, %d, %d, %d) = %v is not valid", g, x, secret, draw, q)
					}
					if q := proof.Equal(g, x, h, y, secret, draw); !proof.CheckEqual(g, x, h, y, q) {
						t.Errorf("Equal(%d, %d, %d, %d, %d, %d) = %v is not valid", g, x, h, y, secret, draw, q)
					}
				}
			}
		}
	}
}

func TestP902ProofsOfArbitraryNumbersAreValid(t *testing.T) {
	g, h, secret, draw := elements(4000), elements(4001), spread(4002), spread(4003)
	for i := range g {
		k, s := powerOf(g[i], secret[i]), powersOf(g[i], h[i], secret[i])
		q, r := k.know(secret[i], draw[i]), s.equal(secret[i], draw[i])
		must(t, k, q)
		must(t, s, r)
		if q.C >= n || q.S >= n || r.C >= n || r.S >= n {
			t.Errorf("%v and %v are not below N", q, r)
		}
	}
}

// lists have other numbers in the room behind them.
func lists() [][]uint64 {
	var all [][]uint64
	for count := range 30 {
		all = append(all, spread(count + 9)[:count], append(elements(count), 0, p)[:count])
	}
	return all
}

func TestP902ChallengeLeavesItsArgument(t *testing.T) {
	for _, l := range lists() {
		all := l[:cap(l)]
		before := slices.Clone(all)
		proof.Challenge("name", l)
		if !slices.Equal(all, before) {
			t.Errorf("Challenge wrote into its %d numbers or behind them", len(l))
		}
	}
}

// What stands behind the list is not the list's.
func TestP902ChallengeTakesTheLengthOnly(t *testing.T) {
	for _, l := range lists() {
		checkChallenge(t, "name", l)
		if got, want := proof.Challenge("name", l), proof.Challenge("name", slices.Clone(l)); got != want {
			t.Errorf("Challenge of %d numbers with others behind them = %d, want %d", len(l), got, want)
		}
	}
}

func TestP902ChallengeDoesNotKeepItsArgument(t *testing.T) {
	for count := 1; count < 50; count++ {
		l := spread(count)
		first := proof.Challenge("name", l)
		for i := range l {
			l[i] = uint64(i) + 2
		}
		checkChallenge(t, "name", l)
		l[count-1] = 0
		checkChallenge(t, "name", l)
		if again := proof.Challenge("name", spread(count)); again != first {
			t.Errorf("Challenge of the same %d numbers = %d, then %d", count, first, again)
		}
	}
}

// replies has what all functions return for the same arguments.
type replies struct {
	challenge, short         uint64
	know, equal              api.Proof
	knowHolds, equalHolds    bool
	knowOfEqual, equalOfKnow bool
}

func repliesOf(g, h, secret, draw uint64) replies {
	k, s := powerOf(g, secret), powersOf(g, h, secret)
	q, r := k.know(secret, draw), s.equal(secret, draw)
	return replies{
		proof.Challenge("name", []uint64{g, h, secret, draw}), proof.Challenge("n", []uint64{g}),
		q, r, k.check(q), s.check(r), k.check(r), s.check(q),
	}
}

func wantedReplies(g, h, secret, draw uint64) replies {
	k, s := powerOf(g, secret), powersOf(g, h, secret)
	q, r := k.wanted(secret, draw), s.wanted(secret, draw)
	return replies{
		challenge("name", g, h, secret, draw), challenge("n", g),
		q, r, k.valid(q), s.valid(r), k.valid(r), s.valid(q),
	}
}

// A second run in another order would show one call's trace in the next.
func TestP902ResultsDependOnArgumentsOnly(t *testing.T) {
	l := slices.Concat(elements(200), []uint64{0, 1, n, p - 1, p, p + 1, math.MaxUint64, 0}, spread(200))
	first := make([]replies, len(l)-3)
	for i := range first {
		first[i] = repliesOf(l[i], l[i+1], l[i+2], l[i+3])
	}
	for i := len(first) - 1; i >= 0; i-- {
		repliesOf(l[i+1], l[i], l[i+3], l[i+2])
		if again := repliesOf(l[i], l[i+1], l[i+2], l[i+3]); again != first[i] {
			t.Errorf("%v: %v, then %v", l[i:i+4], first[i], again)
		}
		if want := wantedReplies(l[i], l[i+1], l[i+2], l[i+3]); want != first[i] {
			t.Errorf("%v: %v, want %v", l[i:i+4], first[i], want)
		}
	}
}

func TestP902CallsAtOnce(t *testing.T) {
	shared := spread(200)
	want := challenge("name", shared...)
	var wait sync.WaitGroup
	for k := range 16 {
		wait.Go(func() {
			l := append(elements(40+k), spread(20+k)...)
			for i := range len(l) - 3 {
				got, want := repliesOf(l[i], l[i+1], l[i+2], l[i+3]), wantedReplies(l[i], l[i+1], l[i+2], l[i+3])
				if got != want {
					t.Errorf("%v beside other calls: %v, want %v", l[i:i+4], got, want)
				}
			}
			if got := proof.Challenge("name", shared); got != want {
				t.Errorf("Challenge of a list that others read too = %d, want %d", got, want)
			}
		})
	}
	wait.Wait()
}
