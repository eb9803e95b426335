package mac_test

import (
	"bytes"
	"crypto/hmac"
	"crypto/sha256"
	"encoding/hex"
	"strings"
	"sync"
	"testing"

	"courierbag/api"
	"courierbag/mac"
	"courierbag/sha"
)

// sample has n bytes that differ from one block to the next.
func sample(n int) []byte {
	b := make([]byte, n)
	x := uint32(n) + 1
	for i := range b {
		x = x*1664525 + 1013904223
		b[i] = byte(x >> 24)
	}
	return b
}

// library has the code that Go's own library computes.
func library(key, b []byte) api.Key {
	h := hmac.New(sha256.New, key)
	h.Write(b)
	return api.Key(h.Sum(nil))
}

func mustBe(t *testing.T, name string, got api.Key, want string) {
	t.Helper()
	if hex.EncodeToString(got[:]) != want {
		t.Errorf("%s = %x, want %s", name, got, want)
	}
}

func bytesOf(t *testing.T, digits string) []byte {
	t.Helper()
	b, err := hex.DecodeString(digits)
	if err != nil {
		t.Fatal(err)
	}
	return b
}

// These codes are published in RFC 4231.
func TestP301OfPublishedCodes(t *testing.T) {
	for _, c := range []struct{ key, text, want string }{
		{strings.Repeat("0b", 20), "Hi There",
			"b0344c61d8db38535ca8afceaf0bf12b881dc200c9833da726e9376c2e32cff7"},
		{hex.EncodeToString([]byte("Jefe")), "what do ya want for nothing?",
			"5bdcc146bf60754e6a042426089575c75a003f089d2739839dec58b964ec3843"},
		{strings.Repeat("aa", 20), strings.Repeat("\xdd", 50),
			"773ea91e36800e46854db8ebd09181a72959098b3ef8c122d9635514ced565fe"},
		{"0102030405060708090a0b0c0d0e0f10111213141516171819", strings.Repeat("\xcd", 50),
			"82558a389a443c0ea4cc819899f2083a85f0faa3e578f8077a2e3ff46729665b"},
		{strings.Repeat("aa", 131), "Test Using Larger Than Block-Size Key - Hash Key First",
			"60e431591ee0b67f0d8a26aacbf5b77f8e0bc6213728c5140546040f0ee37f54"},
		{strings.Repeat("aa", 131), "This is a test using a larger than block-size key and a larger " +
			"than block-size data. The key needs to be hashed before being used by the HMAC algorithm.",
			"9b09ffa71b942fcb27635fbcd5b0e944bfdc63644f0713938a7f51535c3a35e2"},
	} {
		mustBe(t, "Of "+c.text[:8], mac.Of(bytesOf(t, c.key), []byte(c.text)), c.want)
	}
}

func TestP301OfNothing(t *testing.T) {
	const want = "b613679a0814d9ec772f95d778c35fc5ff1697c493715653c6c712144292c5ad"
	mustBe(t, "Of(nil, nil)", mac.Of(nil, nil), want)
	mustBe(t, "Of an empty key", mac.Of([]byte{}, nil), want)
	mustBe(t, "Of empty bytes", mac.Of(nil, []byte{}), want)
	mustBe(t, "Of empty pieces", mac.Of(sample(90)[:0], sample(90)[:0]), want)
}

func TestP301OfEmptyKey(t *testing.T) {
	for n := range 200 {
		b := sample(n)
		if got := mac.Of(nil, b); got != library(nil, b) {
			t.Errorf("Of %d bytes with an empty key = %x", n, got)
		}
	}
}

func TestP301OfNoBytes(t *testing.T) {
	for n := range 200 {
		key := sample(n)
		if got := mac.Of(key, nil); got != library(key, nil) {
			t.Errorf("Of no bytes with a key of %d bytes = %x", n, got)
		}
	}
}

// The keys are below, at and above the length of a block, and the bytes meet its
// borders in every way.
func TestP301OfEveryLength(t *testing.T) {
	for n := range 140 {
		key := sample(n)
		for _, m := range []int{1, 31, 32, 54, 55, 56, 57, 63, 64, 65, 119, 120, 128, 1000} {
			b := sample(m)
			if got := mac.Of(key, b); got != library(key, b) {
				t.Errorf("Of %d bytes with a key of %d bytes = %x", m, n, got)
			}
		}
	}
}

func TestP301OfLongArguments(t *testing.T) {
	for _, n := range []int{1 << 12, 1<<16 + 1, 1 << 20} {
		for _, m := range []int{0, 1 << 10, 1<<16 + 7, 1 << 20} {
			key, b := sample(n), sample(m)
			if got := mac.Of(key, b); got != library(key, b) {
				t.Errorf("Of %d bytes with a key of %d bytes = %x", m, n, got)
			}
		}
	}
}

// A key of 64 bytes is used as it is, one of 65 bytes as its digest.
func TestP301KeysAroundABlock(t *testing.T) {
	b := sample(20)
	for _, n := range []int{63, 64, 65, 66, 128} {
		key := sample(n)
		digest := sha.Sum(key)
		hashed := mac.Of(key, b) == mac.Of(digest[:], b)
		if hashed != (n > 64) {
			t.Errorf("a key of %d bytes: used as its digest: %t", n, hashed)
		}
	}
}

// Bytes 0 extend a key to 64 bytes, but not beyond.
func TestP301ZerosExtendTheKey(t *testing.T) {
	b := sample(20)
	for _, n := range []int{0, 1, 32, 63, 64} {
		key := append(sample(n), make([]byte, 65-n)...)
		want := mac.Of(key[:n], b)
		for m := n; m <= 64; m++ {
			if mac.Of(key[:m], b) != want {
				t.Errorf("a key of %d bytes and %d zeros has another code", n, m-n)
			}
		}
		if mac.Of(key, b) == want {
			t.Errorf("a key of %d bytes and %d zeros has the same code", n, 65-n)
		}
	}
}

// Every bit of a key, and of the bytes, goes into the code.
func TestP301OfSingleBits(t *testing.T) {
	seen := map[api.Key]string{}
	note := func(name string, got, want api.Key) {
		if got != want {
			t.Errorf("%s = %x, want %x", name, got, want)
		}
		if other, ok := seen[got]; ok {
			t.Errorf("%s and %s have one code", name, other)
		}
		seen[got] = name
	}
	for bit := range 8 * 65 {
		one := make([]byte, 65)
		one[bit/8] = 1 << (bit % 8)
		at := hex.EncodeToString(one)
		note("long key "+at, mac.Of(one, nil), library(one, nil))
		note("bytes "+at, mac.Of(nil, one), library(nil, one))
		if bit < 8*64 {
			note("key "+at, mac.Of(one[:64], nil), library(one[:64], nil))
		}
	}
}

func TestP301KeyAndBytesAreToldApart(t *testing.T) {
	a, b := []byte("a"), []byte("b")
	if mac.Of(a, b) == mac.Of(b, a) {
		t.Error("the key and the bytes can be exchanged")
	}
	if mac.Of([]byte("ab"), nil) == mac.Of(a, b) || mac.Of(nil, []byte("ab")) == mac.Of(a, b) {
		t.Error("bytes can go over from the key to the bytes")
	}
}

// Bytes beyond the length are not part of an argument, even where the capacity
// has them.
func TestP301OfStopsAtTheLength(t *testing.T) {
	key, b := sample(200), sample(201)
	for _, n := range []int{0, 3, 63, 64, 65, 128} {
		want := library(bytes.Clone(key[:n]), bytes.Clone(b[:n]))
		if got := mac.Of(key[:n], b[:n]); got != want {
			t.Errorf("Of the first %d bytes = %x, want %x", n, got, want)
		}
	}
}

func TestP302OfLeavesItsArguments(t *testing.T) {
	for _, n := range []int{0, 1, 32, 63, 64, 65, 130} {
		key, b := sample(300), sample(301)
		mac.Of(key[:n], b[:n])
		if !bytes.Equal(key, sample(300)) {
			t.Errorf("a key of %d bytes, or what lies behind it, was changed", n)
		}
		if !bytes.Equal(b, sample(301)) {
			t.Errorf("%d bytes, or what lies behind them, were changed", n)
		}
	}
}

// One piece of memory may be both arguments, whole or in part.
func TestP302ArgumentsMayOverlap(t *testing.T) {
	all := sample(300)
	for _, n := range []int{1, 32, 64, 65, 150} {
		for _, at := range []int{0, 1, n} {
			key, b := all[:n], all[at:at+n]
			if got := mac.Of(key, b); got != library(bytes.Clone(key), bytes.Clone(b)) {
				t.Errorf("Of with a key of %d bytes and the bytes from %d on = %x", n, at, got)
			}
		}
	}
	if !bytes.Equal(all, sample(300)) {
		t.Error("overlapping arguments were changed")
	}
}

func TestP302ArgumentsAreNotKept(t *testing.T) {
	for _, n := range []int{1, 64, 65} {
		key, b := sample(n), sample(100)
		first := mac.Of(key, b)
		was := first
		key[0]++
		b[0]++
		if first != was {
			t.Error("a code changed with the arguments")
		}
		if got := mac.Of(key, b); got != library(key, b) {
			t.Errorf("a key of %d bytes: the code is that of arguments that are there no more", n)
		}
	}
}

func TestP302ResultsAreNotShared(t *testing.T) {
	first := mac.Of(nil, nil)
	first[0]++
	if again := mac.Of(nil, nil); again != library(nil, nil) {
		t.Error("a change of a result changed the next one")
	}
}

// A second run in another order would show one call's trace in the next.
func TestP302ResultsDependOnArgumentsOnly(t *testing.T) {
	var first [150]api.Key
	for n := range first {
		first[n] = mac.Of(sample(n), sample(2*n))
	}
	for n := len(first) - 1; n >= 0; n-- {
		mac.Of(sample(2*n), sample(n))
		if again := mac.Of(sample(n), sample(2*n)); again != first[n] {
			t.Errorf("with a key of %d bytes: %x, then %x", n, first[n], again)
		}
	}
}

func TestP302CallsAtOnce(t *testing.T) {
	var wait sync.WaitGroup
	key := sample(40)
	for n := range 16 {
		wait.Go(func() {
			for m := range 100 {
				b := sample(10*n + m)
				if mac.Of(key, b) != library(key, b) || mac.Of(b, key) != library(b, key) {
					t.Errorf("the code of %d bytes is wrong beside other calls", len(b))
				}
			}
		})
	}
	wait.Wait()
}
