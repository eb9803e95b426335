package sign_test

import (
	"bytes"
	"crypto/hmac"
	"crypto/sha256"
	"encoding/binary"
	"encoding/hex"
	"math"
	"math/big"
	"slices"
	"strings"
	"sync"
	"testing"

	"courierbag/api"
	"courierbag/sign"
)

const (
	p   = api.P
	n   = api.N
	top = math.MaxUint64
)

func number(x uint64) *big.Int { return new(big.Int).SetUint64(x) }

func isElement(x uint64) bool {
	return number(x).Sign() == 1 && number(x).Cmp(number(p)) == -1
}

// times, public, name, draw, challenge, answer and drawn are by Go's own big numbers,
// codes and digests.
func times(x, e uint64) uint64 {
	if !isElement(x) {
		return 0
	}
	return new(big.Int).Exp(number(x), number(e), number(p)).Uint64()
}

func public(secret uint64) uint64 { return times(37, secret) }

func word(x uint64) []byte { return binary.BigEndian.AppendUint64(nil, x) }

func name(x uint64) api.Key { return sha256.Sum256(word(x)) }

func below(b []byte) uint64 {
	all := new(big.Int).SetBytes(b)
	return all.Mod(all, number(n)).Uint64()
}

func draw(secret uint64, b []byte) uint64 {
	code := hmac.New(sha256.New, word(secret))
	code.Write(b)
	return below(code.Sum(nil))
}

func challenge(public, t uint64, b []byte) uint64 {
	digest := sha256.New()
	for _, part := range [][]byte{[]byte("sign"), word(public), word(t), b} {
		digest.Write(word(uint64(len(part))))
		digest.Write(part)
	}
	return below(digest.Sum(nil))
}

func answer(c, secret, draw uint64) api.Proof {
	s := new(big.Int).Mul(number(c), number(secret))
	s.Sub(number(draw), s)
	return api.Proof{C: c, S: s.Mod(s, number(n)).Uint64()}
}

func drawn(public uint64, q api.Proof) uint64 {
	t := new(big.Int).Mul(number(times(37, q.S)), number(times(public, q.C)))
	return t.Mod(t, number(p)).Uint64()
}

// signedBy has what Sign returns, but for a public key and a draw of one's own.
func signedBy(public, secret, draw uint64, b []byte) api.Proof {
	return answer(challenge(public, times(37, draw), b), secret, draw)
}

func signed(secret uint64, b []byte) api.Proof {
	return signedBy(public(secret), secret, draw(secret, b), b)
}

func valid(public uint64, b []byte, q api.Proof) bool {
	return isElement(public) && q.C < n && q.S < n && q.C == challenge(public, drawn(public, q), b)
}

// spread has count numbers of all sizes, always the same.
func spread(count int) []uint64 {
	l := make([]uint64, count)
	x := uint64(count) + 1
	for i := range l {
		x = x*6364136223846793005 + 1442695040888963407
		l[i] = (x ^ x>>29) >> (i % 9 * 7)
	}
	return l
}

// elements has count elements of all sizes, always the same.
func elements(count int) []uint64 {
	l := spread(count)
	for i, x := range l {
		l[i] = x%(p-1) + 1
	}
	return l
}

// outside are numbers that are no elements; most of them are not 0 modulo P.
func outside() []uint64 {
	return []uint64{
		0, p, p + 1, p + 37, 2*p - 1, 2 * p, 2*p + 1, 3*p + 5, 8 * p, 8*p + 1,
		1 << 62, 1<<63 - 1, 1 << 63, top - 1, top,
	}
}

// edges are secrets at the ends of the ranges, at and beside the multiples of N.
func edges() []uint64 {
	return []uint64{
		0, 1, 2, 12345, n / 2, n - 2, n - 1, n, n + 1, n + 7, 2*n - 1, 2 * n, 2*n + 1,
		8*n - 1, 8 * n, 8*n + 1, 1 << 61, 1 << 63, top - 1, top,
	}
}

// text has count bytes, always the same.
func text(count int) []byte {
	b := make([]byte, count)
	for i := range b {
		b[i] = byte(i*i>>3 + 7*i + count)
	}
	return b
}

// texts are some of all kinds: nearly all are short.
func texts() [][]byte {
	return [][]byte{
		nil, {}, {0}, {1}, {0, 0}, {0xff}, []byte("sign"), []byte("some words"), word(0), word(37),
		text(55), text(56), text(63), text(64), text(65), make([]byte, 100), text(1000),
	}
}

func checkSign(t *testing.T, secret uint64, b []byte) {
	t.Helper()
	q := sign.Sign(secret, b)
	if want := signed(secret, b); q != want {
		t.Errorf("Sign(%d, %d bytes %.20q) = %v, want %v", secret, len(b), b, q, want)
	}
	must(t, public(secret), b, q)
}

// mustNot takes it that q is no signature, so that a mistake in the test itself shows,
// too.
func mustNot(t *testing.T, public uint64, b []byte, q api.Proof) {
	t.Helper()
	if sign.Check(public, b, q) {
		t.Errorf("Check(%d, %d bytes %.20q, %v) = true", public, len(b), b, q)
	}
	if valid(public, b, q) {
		t.Errorf("of %d and %d bytes %.20q, %v is valid", public, len(b), b, q)
	}
}

func must(t *testing.T, public uint64, b []byte, q api.Proof) {
	t.Helper()
	if !sign.Check(public, b, q) {
		t.Errorf("Check(%d, %d bytes %.20q, %v) = false", public, len(b), b, q)
	}
	if !valid(public, b, q) {
		t.Errorf("of %d and %d bytes %.20q, %v is not valid", public, len(b), b, q)
	}
}

// These numbers were computed apart from any Go program, and so were those of Name and
// Sign.
func TestP1001PublicFixedNumbers(t *testing.T) {
	for _, c := range []struct{ secret, want uint64 }{
		{0, 1},
		{1, 37},
		{2, 1369},
		{12345, 2231487922669735222},
		{n / 2, 2305843009213693950},
		{n - 1, 2181202846553494278},
		{n, 1},
		{n + 1, 37},
		{n + 12345, 2231487922669735222},
		{8*n - 1, 2181202846553494278},
		{1 << 63, 3512479453921},
		{top, 616232432238528334},
	} {
		if got := sign.Public(c.secret); got != c.want {
			t.Errorf("Public(%d) = %d, want %d", c.secret, got, c.want)
		}
	}
}

func TestP1001Public(t *testing.T) {
	for _, secret := range slices.Concat(edges(), outside(), elements(500), spread(2000)) {
		got := sign.Public(secret)
		if want := public(secret); got != want || !isElement(got) {
			t.Errorf("Public(%d) = %d, want %d", secret, got, want)
		}
		if again := sign.Public(secret % n); again != got {
			t.Errorf("Public(%d) = %d, but %d modulo N", secret, got, again)
		}
	}
}

func TestP1001NameFixedNumbers(t *testing.T) {
	for _, c := range []struct {
		public uint64
		want   string
	}{
		{0, "af5570f5a1810b7af78caf4bc70a660f0df51e42baf91d4de5b2328de0e83dfc"},
		{1, "cd2662154e6d76b2b2b92e70c0cac3ccf534f9b74eb5b89819ec509083d00a50"},
		{37, "309a9481e459e8ea01c7a08ac3fe34bac4438189cd70104663963c4f42c6957f"},
		{69343957, "1eae7df10ab9a67d9b281090ba040bc141482677c6cd93b9728249bb31517e99"},
		{p - 1, "12abff4573c28e203025131ec0c840c42ca22364bebc7f407586d5ded8be3d1c"},
		{p, "5b38f2035b1382b2758fb5df9c20276bc89481d9e3663ed460bcf24652d53428"},
		{p + 1, "9d4ac218fb54041e3a70a8e14db1ea1af9f570f4842b4702ef9323f1ad8f0ec4"},
		{1 << 63, "b1b0bee5378188f5250138bcce25855f2617f9c55b20b9628e13d367c47404a9"},
		{top, "12a3ae445661ce5dee78d0650d33362dec29c4f82af05e7e57fb595bbbacf0ca"},
	} {
		if got := sign.Name(c.public); hex.EncodeToString(got[:]) != c.want {
			t.Errorf("Name(%d) = %x, want %s", c.public, got, c.want)
		}
	}
}

// Of any numbers: those that are no elements have names of their own, too.
func TestP1001Name(t *testing.T) {
	seen := map[api.Key]uint64{}
	for _, x := range slices.Concat(outside(), edges(), elements(500), spread(1500)) {
		got := sign.Name(x)
		if want := name(x); got != want {
			t.Errorf("Name(%d) = %x, want %x", x, got, want)
		}
		if before, ok := seen[got]; ok && before != x {
			t.Errorf("%d and %d have the same name", before, x)
		}
		seen[got] = x
	}
}

func TestP1001SignFixedNumbers(t *testing.T) {
	for _, c := range []struct {
		secret uint64
		b      string
		want   api.Proof
	}{
		{0, "", api.Proof{C: 1878947205070892892, S: 2179749192705470061}},
		{0, "\x00", api.Proof{C: 263808575116069859, S: 981045386653183933}},
		{1, "\x01", api.Proof{C: 1340916356432246704, S: 459287952399101542}},
		{1, "sign", api.Proof{C: 1509055544065800668, S: 1800684054108673593}},
		{2, "some words", api.Proof{C: 2038590487902478289, S: 1258196573793525002}},
		{2, "\xff\x00\xc3\xa9\n", api.Proof{C: 1993256299411206283, S: 2174866752841648281}},
		{12345, strings.Repeat("a", 1000), api.Proof{C: 1936750822460919727, S: 167310871323204351}},
		{12345, "", api.Proof{C: 1341332296916050436, S: 634956206505824402}},
		{n / 2, "\x00", api.Proof{C: 1684967516042281385, S: 2264390400986169582}},
		{n / 2, "\x01", api.Proof{C: 909164762657675060, S: 869958655869658383}},
		{n - 1, "sign", api.Proof{C: 802408431666192704, S: 1220691614497261967}},
		{n - 1, "some words", api.Proof{C: 1249424602233228221, S: 2051813525282513331}},
		{n, "\xff\x00\xc3\xa9\n", api.Proof{C: 840515826151880795, S: 958989570044566312}},
		{n, strings.Repeat("a", 1000), api.Proof{C: 1523292766129507229, S: 1167970245590956128}},
		{n + 1, "", api.Proof{C: 389806164222258862, S: 1710230401977665235}},
		{n + 1, "\x00", api.Proof{C: 644749702256493367, S: 1993119479168589618}},
		{n + 12345, "some words", api.Proof{C: 117696534790184949, S: 2175334287307719176}},
		{n + 12345, "\xff\x00\xc3\xa9\n", api.Proof{C: 1444539123071748495, S: 684500510113047080}},
		{8*n - 1, strings.Repeat("a", 1000), api.Proof{C: 1955491572757348527, S: 1862339663514178744}},
		{8*n - 1, "", api.Proof{C: 1367460224689627964, S: 351781761584657058}},
		{1 << 63, "\x00", api.Proof{C: 1550199819675088392, S: 30860212701556892}},
		{1 << 63, "\x01", api.Proof{C: 1903205536745591197, S: 1666166567343655199}},
		{top, "sign", api.Proof{C: 427261604027541979, S: 1777480617148457493}},
		{top, "some words", api.Proof{C: 10334509195567733, S: 1633600771540991271}},
		{0, strings.Repeat("\x00", 100000), api.Proof{C: 2097273357836533569, S: 2198947647342013916}},
		{12345, strings.Repeat("\x00", 100000), api.Proof{C: 1955970885273648002, S: 1872143068521716831}},
	} {
		if got := sign.Sign(c.secret, []byte(c.b)); got != c.want {
			t.Errorf("Sign(%d, %.20q) = %v, want %v", c.secret, c.b, got, c.want)
		}
		if !sign.Check(public(c.secret), []byte(c.b), c.want) {
			t.Errorf("Check of %d, %.20q, %v = false", c.secret, c.b, c.want)
		}
	}
}

func TestP1001SignOfSecrets(t *testing.T) {
	for _, secret := range slices.Concat(edges(), outside(), spread(50)) {
		for _, b := range texts() {
			checkSign(t, secret, b)
		}
	}
	for i, secret := range spread(2000) {
		checkSign(t, secret, text(i%40))
	}
}

func TestP1001SignOfBytes(t *testing.T) {
	for count := range 300 {
		checkSign(t, 12345, text(count))
		checkSign(t, n-1, make([]byte, count))
	}
	for _, count := range []int{4095, 65535, 65536, 65537, 1 << 20} {
		checkSign(t, 12345, text(count))
		checkSign(t, top, make([]byte, count))
	}
	for c := range 256 {
		checkSign(t, 0, []byte{byte(c)})
	}
}

// No bytes are the same, whether the slice is nil or empty, or has room.
func TestP1001SignOfNoBytes(t *testing.T) {
	for _, secret := range edges() {
		want := signed(secret, nil)
		for _, b := range [][]byte{nil, {}, text(50)[:0], text(50)[50:]} {
			if got := sign.Sign(secret, b); got != want {
				t.Errorf("Sign(%d) of no bytes = %v, want %v", secret, got, want)
			}
			must(t, public(secret), b, want)
		}
		mustNot(t, public(secret), []byte{0}, want)
	}
}

// A secret that differs by N has the same public key, but draws another number: both
// signatures are valid.
func TestP1001SecretsThatDifferByN(t *testing.T) {
	for _, low := range []uint64{0, 1, 12345, n - 2, n - 1} {
		for _, b := range texts() {
			seen := map[uint64]bool{}
			for i := range uint64(8) {
				q := sign.Sign(low+i*n, b)
				must(t, public(low), b, q)
				if seen[q.S] {
					t.Errorf("Sign(%d) has the answer %d for another secret, too", low+i*n, q.S)
				}
				seen[q.S] = true
			}
		}
	}
}

// What was drawn hangs on all bits of the secret and all bytes.
func TestP1001DrawsDiffer(t *testing.T) {
	seen := map[uint64]bool{}
	see := func(secret uint64, b []byte) {
		x := drawn(public(secret), sign.Sign(secret, b))
		if seen[x] {
			t.Errorf("Sign(%d, %d bytes) draws what another one does", secret, len(b))
		}
		seen[x] = true
	}
	see(0, nil)
	for bit := range 64 {
		see(1<<bit, nil)
	}
	for count := 1; count < 100; count++ {
		see(0, make([]byte, count))
		see(5, make([]byte, count))
		b := make([]byte, 100)
		b[count] = 1
		see(0, b)
	}
}

// A secret of 0 leaves what was drawn as the answer, so that S can be any number below
// N, and stands for the same power if N is added.
func TestP1001AnswersAtTheEndsOfTheRange(t *testing.T) {
	for _, b := range texts() {
		for _, draw := range []uint64{0, 1, n - 2, n - 1} {
			q := signedBy(1, 0, draw, b)
			if q.S != draw {
				t.Fatalf("the answer is %d, not %d", q.S, draw)
			}
			must(t, 1, b, q)
			for i := uint64(1); i < 8; i++ {
				mustNot(t, 1, b, api.Proof{C: q.C, S: draw + i*n})
			}
		}
	}
}

// Although C + N and S + N stand for the same powers.
func TestP1001CheckOfNumbersNotBelowN(t *testing.T) {
	for _, secret := range append(edges(), spread(40)...) {
		x := public(secret)
		for _, b := range [][]byte{nil, {0}, text(100)} {
			q := sign.Sign(secret, b)
			must(t, x, b, q)
			for i := uint64(1); i < 8; i++ {
				mustNot(t, x, b, api.Proof{C: q.C, S: q.S + i*n})
				mustNot(t, x, b, api.Proof{C: q.C + i*n, S: q.S})
				mustNot(t, x, b, api.Proof{C: q.C + i*n, S: q.S + i*n})
			}
			for _, c := range []uint64{n - 1, n, n + 1, p, 1 << 63, top} {
				mustNot(t, x, b, api.Proof{C: c, S: q.S})
				mustNot(t, x, b, api.Proof{C: q.C, S: c})
				mustNot(t, x, b, api.Proof{C: c, S: c})
			}
			mustNot(t, x, b, api.Proof{})
		}
	}
}

// others has numbers that are near x in all ways, but not x.
func others(x uint64) []uint64 {
	l := []uint64{0, 1, 37, p - 1, p, top, x + 1, x - 1, p - x, n - x, x + p, x + n, -x, 2 * x}
	for bit := range 64 {
		l = append(l, x^1<<bit)
	}
	if isElement(x) {
		l = append(l, new(big.Int).ModInverse(number(x), number(p)).Uint64(), times(x, 2))
	}
	return slices.DeleteFunc(l, func(other uint64) bool { return other == x })
}

func TestP1001CheckOfAnotherNumber(t *testing.T) {
	for i, secret := range append(edges(), spread(60)...) {
		b := texts()[i%len(texts())]
		x, q := public(secret), sign.Sign(secret, b)
		must(t, x, b, q)
		for _, other := range others(x) {
			mustNot(t, other, b, q)
		}
		for _, other := range others(q.C) {
			mustNot(t, x, b, api.Proof{C: other, S: q.S})
		}
		for _, other := range others(q.S) {
			mustNot(t, x, b, api.Proof{C: q.C, S: other})
		}
		mustNot(t, x, b, api.Proof{C: q.S, S: q.C})
	}
}

// changed has b with one byte or the length changed.
func changed(b []byte) [][]byte {
	all := [][]byte{slices.Concat(b, []byte{0}), slices.Concat([]byte{0}, b), slices.Concat(b, b, b, []byte{1})}
	for at := range b {
		for bit := range 8 {
			one := slices.Clone(b)
			one[at] ^= 1 << bit
			all = append(all, one)
		}
		all = append(all, b[:at], slices.Delete(slices.Clone(b), at, at+1), slices.Insert(slices.Clone(b), at, b[at]))
	}
	return all
}

func TestP1001CheckOfOtherBytes(t *testing.T) {
	for _, secret := range []uint64{0, 12345, n - 1, n, top} {
		x := public(secret)
		for _, b := range [][]byte{nil, {0}, {0, 0}, {1, 2, 3}, []byte("sign"), word(x), text(64), text(100)} {
			q := sign.Sign(secret, b)
			for _, other := range changed(b) {
				if !bytes.Equal(other, b) {
					mustNot(t, x, other, q)
				}
			}
		}
		long := text(100000)
		q := sign.Sign(secret, long)
		must(t, x, long, q)
		for _, at := range []int{0, 63, 64, 50000, 99999} {
			long[at]++
			mustNot(t, x, long, q)
			long[at]--
		}
		mustNot(t, x, long[1:], q)
		mustNot(t, x, long[:99999], q)
	}
}

func TestP1001CheckOfAnotherKey(t *testing.T) {
	for i, secret := range edges() {
		for _, b := range texts() {
			q := sign.Sign(secret, b)
			for _, other := range append(edges(), spread(9+i)...) {
				if other%n != secret%n {
					mustNot(t, public(other), b, q)
				}
			}
			mustNot(t, secret, b, q)
		}
	}
}

// The answer has to be by the secret of the public key that the challenge names.
func TestP1001CheckOfAnotherSecret(t *testing.T) {
	for _, secret := range edges() {
		x := public(secret)
		for _, b := range texts() {
			mustNot(t, x, b, signedBy(x, secret+1, 99, b))
			mustNot(t, x, b, signedBy(public(secret+1), secret, 99, b))
			mustNot(t, x, b, signedBy(public(secret+1), secret+1, 99, b))
			must(t, x, b, signedBy(x, secret, 99, b))
		}
	}
}

// Any draw makes a valid signature, not only that of the secret and the bytes.
func TestP1001CheckOfAnyDraw(t *testing.T) {
	for _, secret := range edges() {
		for _, draw := range append(edges(), spread(20)...) {
			b := text(int(draw % 70))
			must(t, public(secret), b, signedBy(public(secret), secret, draw, b))
		}
	}
}

// What is no element is rejected even where the challenge is right for the product
// that its powers would have, as 0 or modulo P.
func TestP1001CheckOfWhatIsNoElement(t *testing.T) {
	for _, b := range texts() {
		all := outside()
		for _, secret := range edges() {
			all = append(all, public(secret)+p, public(secret)+7*p)
		}
		for _, x := range all {
			for _, product := range []uint64{0, 1, 37, p - 1, p, times(37, 99), times(x%p, 99)} {
				c := challenge(x, product, b)
				mustNot(t, x, b, api.Proof{C: c})
				mustNot(t, x, b, api.Proof{C: c, S: 1})
				mustNot(t, x, b, api.Proof{C: c, S: 99})
				mustNot(t, x, b, api.Proof{C: c, S: n - 1})
			}
			mustNot(t, x, b, signedBy(x%p, 0, 99, b))
		}
	}
}

// Held against a public key plus P, for which modulo P all powers would be right.
func TestP1001CheckOfAPublicKeyPlusP(t *testing.T) {
	for _, secret := range append(edges(), spread(100)...) {
		for i := uint64(1); i < 8; i++ {
			x := public(secret) + i*p
			b := text(int(secret % 50))
			mustNot(t, x, b, sign.Sign(secret, b))
			mustNot(t, x, b, signedBy(x, secret, 99, b))
		}
	}
}

// Of -x instead of x, the half of the challenges that is even gives the same power: so
// a signature can be valid although the secret is not that of the public key.
func TestP1001CheckOfTheOtherSign(t *testing.T) {
	count := 0
	for _, secret := range append(edges(), spread(20)...) {
		for _, b := range texts() {
			x := p - public(secret)
			q := signedBy(x, secret, 99, b)
			want := q.C%2 == 0
			if got := sign.Check(x, b, q); got != want || got != valid(x, b, q) {
				t.Errorf("Check(%d, %.20q, %v) = %v, want %v", x, b, q, got, want)
			}
			if want {
				count++
			}
		}
	}
	if count == 0 {
		t.Errorf("no challenge was even")
	}
}

// The powers of an element whose order is small do not tell all of C: so some answers
// are valid that nobody made with its secret.
func TestP1001CheckOfSmallOrders(t *testing.T) {
	count := 0
	for _, order := range []uint64{1, 2, 3, 5, 6, 7} {
		x := times(37, n/order)
		for s := range uint64(40) {
			q := api.Proof{C: challenge(x, times(37, s), text(5)), S: s}
			got := sign.Check(x, text(5), q)
			if want := valid(x, text(5), q); got != want {
				t.Errorf("Check(%d, %v) = %v, want %v", x, q, got, want)
			}
			if got && order > 1 {
				count++
			}
		}
	}
	if count == 0 {
		t.Errorf("no challenge was lucky")
	}
}

func TestP1001CheckOfArbitraryNumbers(t *testing.T) {
	l := spread(20000)
	for i := range len(l) - 3 {
		mustNot(t, l[i], text(i%30), api.Proof{C: l[i+1], S: l[i+2]})
		mustNot(t, l[i]%(p-1)+1, text(i%30), api.Proof{C: l[i+1] % n, S: l[i+2] % n})
	}
}

// lists have other bytes in the room behind them.
func lists() [][]byte {
	var all [][]byte
	for count := range 140 {
		all = append(all, text(count + 75)[:count], append(text(count), 0, 1)[:count])
	}
	return append(all, text(5000)[:4000], text(5000)[1000:1001])
}

func TestP1002BytesAreNotModified(t *testing.T) {
	for _, b := range lists() {
		all := b[:cap(b)]
		before := slices.Clone(all)
		q := sign.Sign(12345, b)
		if !bytes.Equal(all, before) {
			t.Errorf("Sign wrote into its %d bytes or behind them", len(b))
		}
		for _, q := range []api.Proof{q, {C: q.C + 1, S: q.S}, {C: top, S: top}} {
			for _, x := range []uint64{public(12345), public(12346), 0, p} {
				sign.Check(x, b, q)
			}
		}
		if !bytes.Equal(all, before) {
			t.Errorf("Check wrote into its %d bytes or behind them", len(b))
		}
	}
}

// What stands behind the bytes is not theirs.
func TestP1002OnlyTheLengthCounts(t *testing.T) {
	for _, b := range lists() {
		checkSign(t, 12345, b)
		if got, want := sign.Sign(12345, b), sign.Sign(12345, slices.Clip(slices.Clone(b))); got != want {
			t.Errorf("Sign of %d bytes with others behind them = %v, want %v", len(b), got, want)
		}
	}
}

func TestP1002BytesAreNotKept(t *testing.T) {
	for count := 1; count < 140; count++ {
		b := text(count)
		first := sign.Sign(12345, b)
		must(t, public(12345), b, first)
		for i := range b {
			b[i] ^= 0x55
		}
		mustNot(t, public(12345), b, first)
		checkSign(t, 12345, b)
		b[count-1]++
		checkSign(t, 12345, b)
		if again := sign.Sign(12345, text(count)); again != first {
			t.Errorf("Sign of the same %d bytes = %v, then %v", count, first, again)
		}
		must(t, public(12345), text(count), first)
	}
}

// replies has what all functions return for the same arguments.
type replies struct {
	public           uint64
	name             api.Key
	signed           api.Proof
	holds            bool
	ofOther, ofBytes bool
}

func repliesOf(secret, other uint64, b []byte) replies {
	q := sign.Sign(secret, b)
	return replies{
		sign.Public(secret), sign.Name(secret), q, sign.Check(public(secret), b, q),
		sign.Check(other, b, q), sign.Check(public(secret), word(other), q),
	}
}

func wantedReplies(secret, other uint64, b []byte) replies {
	q := signed(secret, b)
	return replies{
		public(secret), name(secret), q, valid(public(secret), b, q),
		valid(other, b, q), valid(public(secret), word(other), q),
	}
}

// A second run in another order would show one call's trace in the next.
func TestP1002ResultsDependOnArgumentsOnly(t *testing.T) {
	l := slices.Concat(edges(), elements(200), outside(), spread(200), []uint64{0, n, 0})
	first := make([]replies, len(l)-1)
	for i := range first {
		first[i] = repliesOf(l[i], l[i+1], text(i%150))
	}
	for i := len(first) - 1; i >= 0; i-- {
		repliesOf(l[i+1], l[i], text((i+1)%150))
		if again := repliesOf(l[i], l[i+1], text(i%150)); again != first[i] {
			t.Errorf("%v: %v, then %v", l[i:i+2], first[i], again)
		}
		if want := wantedReplies(l[i], l[i+1], text(i%150)); want != first[i] {
			t.Errorf("%v: %v, want %v", l[i:i+2], first[i], want)
		}
	}
}

func TestP1002CallsAtOnce(t *testing.T) {
	shared := text(5000)
	want := signed(12345, shared)
	var wait sync.WaitGroup
	for k := range 16 {
		wait.Go(func() {
			l := append(elements(40+k), spread(20+k)...)
			for i := range len(l) - 1 {
				got, want := repliesOf(l[i], l[i+1], text(k+i)), wantedReplies(l[i], l[i+1], text(k+i))
				if got != want {
					t.Errorf("%v beside other calls: %v, want %v", l[i:i+2], got, want)
				}
			}
			if got := sign.Sign(12345, shared); got != want || !sign.Check(public(12345), shared, got) {
				t.Errorf("Sign of bytes that others read too = %v, want %v", got, want)
			}
		})
	}
	wait.Wait()
}
