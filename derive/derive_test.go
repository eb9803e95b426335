package derive_test

import (
	"bytes"
	"crypto/hkdf"
	"crypto/hmac"
	"crypto/sha256"
	"encoding/hex"
	"math"
	"strings"
	"sync"
	"testing"

	"courierbag/api"
	"courierbag/derive"
	"courierbag/mac"
)

// most is the greatest number of bytes that Expand returns.
const most = 8160

var infos = []string{
	"", "a", "note", "\x00", "\x01", "\xff\x00\xfe", strings.Repeat("i", 22), strings.Repeat("i", 23),
	strings.Repeat("long ", 13), strings.Repeat("longer ", 1000),
}

// sample has n bytes that differ from one block to the next.
func sample(n int) []byte {
	b := make([]byte, n)
	x := uint32(n) + 1
	for i := range b {
		x = x*1664525 + 1013904223
		b[i] = byte(x >> 24)
	}
	return b
}

func sampleKey(n int) api.Key {
	b := sample(n + 32)
	return api.Key(b[n:])
}

// expanded has the bytes that Go's own library computes.
func expanded(t *testing.T, key api.Key, info string, n int) []byte {
	t.Helper()
	b, err := hkdf.Expand(sha256.New, key[:], info, n)
	if err != nil {
		t.Fatal(err)
	}
	return b
}

// derived has the key that Go's own library computes.
func derived(t *testing.T, secret []byte, name string) api.Key {
	t.Helper()
	b, err := hkdf.Key(sha256.New, secret, make([]byte, 32), name, 32)
	if err != nil {
		t.Fatal(err)
	}
	return api.Key(b)
}

func bytesOf(t *testing.T, digits string) []byte {
	t.Helper()
	b, err := hex.DecodeString(digits)
	if err != nil {
		t.Fatal(err)
	}
	return b
}

// These bytes are published in RFC 5869, with the keys that it extracts.
func TestP401ExpandOfPublishedBytes(t *testing.T) {
	for _, c := range []struct{ key, info, want string }{
		{"077709362c2e32df0ddc3f0dc47bba6390b6c73bb50f9c3122ec844ad7c2b3e5",
			"f0f1f2f3f4f5f6f7f8f9",
			"3cb25f25faacd57a90434f64d0362f2a2d2d0a90cf1a5a4c5db02d56ecc4c5bf34007208d5b887185865"},
		{"06a6b88c5853361a06104c9ceb35b45cef760014904671014a193f40c15fc244",
			"b0b1b2b3b4b5b6b7b8b9babbbcbdbebfc0c1c2c3c4c5c6c7c8c9cacbcccdcecf" +
				"d0d1d2d3d4d5d6d7d8d9dadbdcdddedfe0e1e2e3e4e5e6e7e8e9eaebecedeeef" +
				"f0f1f2f3f4f5f6f7f8f9fafbfcfdfeff",
			"b11e398dc80327a1c8e7f78c596a49344f012eda2d4efad8a050cc4c19afa97c" +
				"59045a99cac7827271cb41c65e590e09da3275600c2f09b8367793a9aca3db71" +
				"cc30c58179ec3e87c14c01d5c1f3434f1d87"},
		{"19ef24a32c717b167f33a91d6f648bdf96596776afdb6377ac434c1c293ccb04", "",
			"8da4e775a563c18f715f802a063c5a31b8a11f5c5ee1879ec3454e5f3c738d2d" +
				"9d201395faa4b61a96c8"},
	} {
		key, want := api.Key(bytesOf(t, c.key)), bytesOf(t, c.want)
		if got := derive.Expand(key, string(bytesOf(t, c.info)), len(want)); !bytes.Equal(got, want) {
			t.Errorf("Expand with the key %s = %x, want %s", c.key, got, c.want)
		}
	}
}

// RFC 5869's case without a salt and info: its first 32 bytes are the key of no
// name.
func TestP401KeyOfPublishedBytes(t *testing.T) {
	want := bytesOf(t, "8da4e775a563c18f715f802a063c5a31b8a11f5c5ee1879ec3454e5f3c738d2d")
	secret := bytes.Repeat([]byte{0x0b}, 22)
	if got := derive.Key(secret, ""); !bytes.Equal(got[:], want) {
		t.Errorf("Key = %x, want %x", got, want)
	}
}

// The chapter's words, step by step.
func TestP401ExpandIsTheChaptersChain(t *testing.T) {
	for _, info := range infos[:6] {
		key := sampleKey(7)
		var all, last []byte
		for i := 1; i <= 255; i++ {
			code := mac.Of(key[:], bytes.Join([][]byte{last, []byte(info), {byte(i)}}, nil))
			last = code[:]
			all = append(all, last...)
		}
		if got := derive.Expand(key, info, most); !bytes.Equal(got, all) {
			t.Errorf("Expand with info %q has other bytes than the chain", info)
		}
	}
}

func TestP401ExpandOfNoLength(t *testing.T) {
	for _, n := range []int{0, -1, -31, -32, -8160, math.MinInt32, math.MinInt} {
		for _, info := range infos {
			if got := derive.Expand(sampleKey(1), info, n); len(got) != 0 {
				t.Errorf("Expand of %d bytes has %d", n, len(got))
			}
		}
	}
}

func TestP401ExpandOfTooMany(t *testing.T) {
	for _, n := range []int{most + 1, most + 31, most + 32, 2 * most, 1 << 16, math.MaxInt32, 1 << 32,
		1<<32 + 1, 1<<32 + 32, math.MaxInt - 31, math.MaxInt} {
		for _, info := range infos {
			if got := derive.Expand(sampleKey(1), info, n); len(got) != 0 {
				t.Fatalf("Expand of %d bytes has %d", n, len(got))
			}
		}
	}
}

func TestP401ExpandOfEveryLength(t *testing.T) {
	key := sampleKey(2)
	want := expanded(t, key, "every length", most)
	for n := 1; n <= most; n++ {
		if n > 130 && n < most-70 && n%32 > 1 && n%32 < 31 {
			continue
		}
		if got := derive.Expand(key, "every length", n); !bytes.Equal(got, want[:n]) {
			t.Fatalf("Expand of %d bytes is wrong", n)
		}
	}
}

func TestP401ExpandOfEveryInfo(t *testing.T) {
	lengths := []int{1, 2, 31, 32, 33, 63, 64, 65, 95, 96, 97, 4096, most - 1, most}
	for i, info := range infos {
		key := sampleKey(i)
		for _, n := range lengths {
			if got := derive.Expand(key, info, n); !bytes.Equal(got, expanded(t, key, info, n)) {
				t.Errorf("Expand of %d bytes with info %q is wrong", n, info)
			}
		}
	}
	for n := range 200 {
		info := string(sample(n))
		if got := derive.Expand(api.Key{}, info, 70); !bytes.Equal(got, expanded(t, api.Key{}, info, 70)) {
			t.Errorf("Expand with info of %d bytes is wrong", n)
		}
	}
}

// Every bit of the key shows in the first bytes.
func TestP401ExpandOfSingleBits(t *testing.T) {
	seen := map[string]int{}
	for bit := range 256 {
		var key api.Key
		key[bit/8] = 1 << (bit % 8)
		got := derive.Expand(key, "", 40)
		if !bytes.Equal(got, expanded(t, key, "", 40)) {
			t.Errorf("Expand with bit %d of the key is wrong", bit)
		}
		if other, ok := seen[string(got[:8])]; ok {
			t.Errorf("bits %d and %d of the key have the same bytes", other, bit)
		}
		seen[string(got[:8])] = bit
	}
}

// A T's number is a byte of its own, also where info looks like it.
func TestP401InfoAndNumberAreToldApart(t *testing.T) {
	key := sampleKey(3)
	first := derive.Expand(key, "", 32)
	if bytes.Equal(derive.Expand(key, "\x01", 32), first) {
		t.Error("info 1 has the bytes of no info")
	}
	second := derive.Expand(key, "", 64)[32:]
	if !bytes.Equal(derive.Expand(key, string(first)+"\x02", 32), expanded(t, key, string(first)+"\x02", 32)) {
		t.Error("info that is like a later T's text has other bytes")
	}
	if bytes.Equal(first, second) {
		t.Error("the first and the second T are the same")
	}
}

func TestP401KeyOfEverySecret(t *testing.T) {
	for _, name := range infos {
		for _, n := range []int{0, 1, 8, 31, 32, 33, 55, 56, 63, 64, 65, 119, 120, 128, 5000} {
			secret := sample(n)
			if got := derive.Key(secret, name); got != derived(t, secret, name) {
				t.Errorf("Key %q of %d bytes = %x", name, n, got)
			}
		}
	}
}

func TestP401KeyOfNothing(t *testing.T) {
	want := derived(t, nil, "")
	for _, secret := range [][]byte{nil, {}, sample(40)[:0]} {
		if got := derive.Key(secret, ""); got != want {
			t.Errorf("Key of an empty secret and name = %x, want %x", got, want)
		}
	}
}

func TestP401KeyIsTheChaptersExpand(t *testing.T) {
	for _, n := range []int{0, 1, 32, 100} {
		for _, name := range infos {
			secret := sample(n)
			want := derive.Expand(mac.Of(make([]byte, 32), secret), name, 32)
			if got := derive.Key(secret, name); !bytes.Equal(got[:], want) {
				t.Errorf("Key %q of %d bytes = %x, want %x", name, n, got, want)
			}
		}
	}
}

// Were the secret the key of the code instead of its bytes, bytes 0 behind it
// would not show.
func TestP401KeysDiffer(t *testing.T) {
	seen := map[api.Key]string{}
	note := func(name string, key api.Key) {
		if other, ok := seen[key]; ok {
			t.Errorf("%s and %s have one key", name, other)
		}
		seen[key] = name
	}
	for n := range 100 {
		note("zeros "+strings.Repeat("0", n), derive.Key(make([]byte, n), ""))
		note("name "+strings.Repeat("x", n), derive.Key(nil, "x"+strings.Repeat("x", n)))
	}
	note("a, bc", derive.Key([]byte("a"), "bc"))
	note("ab, c", derive.Key([]byte("ab"), "c"))
	note("abc", derive.Key([]byte("abc"), ""))
}

// Bytes beyond the length are not part of a secret, even where the capacity has
// them.
func TestP401KeyStopsAtTheLength(t *testing.T) {
	secret := sample(200)
	for _, n := range []int{0, 3, 31, 32, 64, 65, 128} {
		if got := derive.Key(secret[:n], "a"); got != derived(t, bytes.Clone(secret[:n]), "a") {
			t.Errorf("Key of the first %d bytes = %x", n, got)
		}
	}
}

func TestP402KeyLeavesItsSecret(t *testing.T) {
	for _, n := range []int{0, 1, 32, 64, 65, 130} {
		secret := sample(300)
		derive.Key(secret[:n], "name")
		if !bytes.Equal(secret, sample(300)) {
			t.Errorf("a secret of %d bytes, or what lies behind it, was changed", n)
		}
	}
}

func TestP402ExpandLeavesItsKey(t *testing.T) {
	keys := []api.Key{sampleKey(1), sampleKey(2)}
	derive.Expand(keys[0], "info", 100)
	if keys[0] != sampleKey(1) || keys[1] != sampleKey(2) {
		t.Error("a key was changed")
	}
}

func TestP402SecretIsNotKept(t *testing.T) {
	for _, n := range []int{1, 32, 64, 65} {
		secret := sample(n)
		first := derive.Key(secret, "a")
		was := first
		secret[0]++
		if first != was {
			t.Error("a key changed with the secret")
		}
		if got := derive.Key(secret, "a"); got != derived(t, secret, "a") {
			t.Errorf("a secret of %d bytes: the key is that of a secret that is there no more", n)
		}
	}
}

// A caller may write over a result, also behind its end, and that shows nowhere.
func TestP402ResultsAreNotShared(t *testing.T) {
	for _, n := range []int{1, 31, 32, 33, 64, most} {
		key := sampleKey(4)
		first, second := derive.Expand(key, "a", n), derive.Expand(key, "a", n)
		clear(first[:cap(first)])
		want := expanded(t, key, "a", n)
		if !bytes.Equal(second, want) {
			t.Errorf("%d bytes: a change of a result changed an earlier one", n)
		}
		if !bytes.Equal(derive.Expand(key, "a", n), want) {
			t.Errorf("%d bytes: a change of a result changed the next one", n)
		}
	}
}

// A second run in another order would show one call's trace in the next.
func TestP402ResultsDependOnArgumentsOnly(t *testing.T) {
	var bytesFirst [120][]byte
	var keysFirst [120]api.Key
	for n := range bytesFirst {
		bytesFirst[n] = derive.Expand(sampleKey(n), string(sample(n)), n)
		keysFirst[n] = derive.Key(sample(n), string(sample(n/2)))
	}
	for n := len(bytesFirst) - 1; n >= 0; n-- {
		derive.Expand(sampleKey(n+1), "between", most)
		if !bytes.Equal(derive.Expand(sampleKey(n), string(sample(n)), n), bytesFirst[n]) {
			t.Errorf("Expand of %d bytes has other bytes the second time", n)
		}
		if derive.Key(sample(n), string(sample(n/2))) != keysFirst[n] {
			t.Errorf("Key of %d bytes is another one the second time", n)
		}
	}
}

func TestP402CallsAtOnce(t *testing.T) {
	var wait sync.WaitGroup
	for n := range 16 {
		wait.Go(func() {
			key, info := sampleKey(n), string(sample(n))
			for m := range 50 {
				h := hmac.New(sha256.New, make([]byte, 32))
				h.Write(sample(m))
				want, err := hkdf.Expand(sha256.New, h.Sum(nil), info, 32)
				got := derive.Key(sample(m), info)
				if err != nil || !bytes.Equal(got[:], want) {
					t.Errorf("the key of %d bytes is wrong beside other calls", m)
				}
				long, err := hkdf.Expand(sha256.New, key[:], info, 1+10*m)
				if err != nil || !bytes.Equal(derive.Expand(key, info, 1+10*m), long) {
					t.Errorf("%d bytes are wrong beside other calls", 1+10*m)
				}
			}
		})
	}
	wait.Wait()
}
