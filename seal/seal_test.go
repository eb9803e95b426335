package seal_test

import (
	"bytes"
	"crypto/hmac"
	"crypto/sha256"
	"encoding/binary"
	"encoding/hex"
	"fmt"
	"slices"
	"sync"
	"testing"

	"courierbag/api"
	"courierbag/seal"
)

const tagSize = 16

// lengths are at and beside the multiples of 32, where the key stream goes on to
// its next block.
var lengths = []int{0, 1, 15, 16, 17, 31, 32, 33, 63, 64, 65, 95, 96, 97, 1000}

// sample has n bytes that differ from one block to the next.
func sample(n int) []byte {
	b := make([]byte, n)
	x := uint32(n) + 1
	for i := range b {
		x = x*1664525 + 1013904223
		b[i] = byte(x >> 24)
	}
	return b
}

func sampleKey(n int) api.Key {
	b := sample(n + 32)
	return api.Key(b[n:])
}

// code has the HMAC that Go's own library computes of some parts.
func code(key api.Key, parts ...[]byte) []byte {
	h := hmac.New(sha256.New, key[:])
	for _, part := range parts {
		h.Write(part)
	}
	return h.Sum(nil)
}

func number(n int) []byte { return binary.BigEndian.AppendUint64(nil, uint64(n)) }

// fullTag has all 32 bytes of the code whose first 16 are the tag.
func fullTag(key api.Key, beside, cipher []byte) []byte {
	return code(key, []byte{116}, number(len(beside)), beside, cipher)
}

// tagged has cipher with the tag that belongs to it.
func tagged(key api.Key, beside, cipher []byte) []byte {
	return slices.Concat(cipher, fullTag(key, beside, cipher)[:tagSize])
}

// sealed has what the chapter wants of Seal, by Go's own library.
func sealed(key api.Key, beside, plain []byte) []byte {
	var stream []byte
	for i := 0; len(stream) < len(plain); i++ {
		stream = append(stream, code(key, []byte{115}, number(i))...)
	}
	cipher := bytes.Clone(plain)
	for i := range cipher {
		cipher[i] ^= stream[i]
	}
	return tagged(key, beside, cipher)
}

// inverted has a copy of b with one bit inverted.
func inverted(b []byte, bit int) []byte {
	other := bytes.Clone(b)
	other[bit/8] ^= 1 << (bit % 8)
	return other
}

func mustOpen(t *testing.T, name string, key api.Key, beside, b, want []byte) {
	t.Helper()
	if got, ok := seal.Open(key, beside, b); !ok || !bytes.Equal(got, want) {
		t.Errorf("%s: Open = %x, %t, want %x", name, got, ok, want)
	}
}

// mustNotOpen wants no capacity either, as it could only be a piece of b.
func mustNotOpen(t *testing.T, name string, key api.Key, beside, b []byte) {
	t.Helper()
	if got, ok := seal.Open(key, beside, b); ok || cap(got) != 0 {
		t.Errorf("%s: Open = %x, %t", name, got, ok)
	}
}

func bytesOf(t *testing.T, digits string) []byte {
	t.Helper()
	b, err := hex.DecodeString(digits)
	if err != nil {
		t.Fatal(err)
	}
	return b
}

// These bytes were computed apart from any Go program.
func TestP501FixedBytes(t *testing.T) {
	const (
		zeros  = "0000000000000000000000000000000000000000000000000000000000000000"
		rising = "000102030405060708090a0b0c0d0e0f101112131415161718191a1b1c1d1e1f"
		ones   = "ffffffffffffffffffffffffffffffffffffffffffffffffffffffffffffffff"
	)
	for _, c := range []struct{ key, beside, plain, want string }{
		{zeros, "", "", "7e8b6bc67a808cbcf6618d9c633ff817"},
		{rising, "", "", "149a20af6b827ddf0f914f00e3459042"},
		{rising, "beside", "", "989fc456831b06e002b05ab98f9b2279"},
		{rising, "", "plain", "037021d669706fe2fc2c4a6fc59002c06e80b651f3"},
		{ones, "beside", "The quick brown fox jumps over the lazy dog, twice.",
			"c65c6252c7b6ca557b824d4325ac452ccf84ec81ecda82078eda8a0a3fe2088b" +
				"6345f5d7373057a82a3fafb35b84f6c2cb252fe10b9f63a60791987628c4b90649db35"},
		{zeros, "\x00\x00\x00", string(make([]byte, 64)),
			"2b9b7bbc14e2c15f88dce66f1d6171842ce77b20a3e32f7a1ef5f9c98413c1dd" +
				"7100a0fba005f4744f947974d33f8d5ffbe9d62cc3db3fedc4b77d38cf11623d" +
				"429000af5a5f52f642ab9de448f5f481"},
	} {
		key, want := api.Key(bytesOf(t, c.key)), bytesOf(t, c.want)
		beside, plain := []byte(c.beside), []byte(c.plain)
		if got := seal.Seal(key, beside, plain); !bytes.Equal(got, want) {
			t.Errorf("Seal of %q beside %q = %x, want %x", c.plain, c.beside, got, want)
		}
		mustOpen(t, c.plain, key, beside, want, plain)
	}
}

func TestP501SealOfNothing(t *testing.T) {
	key := sampleKey(1)
	empties := [][]byte{nil, {}, sample(90)[:0]}
	for _, beside := range empties {
		for _, plain := range empties {
			got := seal.Seal(key, beside, plain)
			if len(got) != tagSize || !bytes.Equal(got, sealed(key, nil, nil)) {
				t.Errorf("Seal of no bytes = %x", got)
			}
			mustOpen(t, "no bytes", key, beside, got, nil)
		}
	}
}

func TestP501EveryLength(t *testing.T) {
	for n := range 140 {
		key, plain := sampleKey(n), sample(n)
		for _, m := range []int{0, 1, 8, 31, 32, 33, 55, 56, 64, 100, 255, 256, 300} {
			beside := sample(m)
			want := sealed(key, beside, plain)
			if got := seal.Seal(key, beside, plain); !bytes.Equal(got, want) {
				t.Errorf("Seal of %d bytes beside %d = %x, want %x", n, m, got, want)
			}
			mustOpen(t, fmt.Sprintf("%d bytes beside %d", n, m), key, beside, want, plain)
		}
	}
}

// From 256 and from 65536 blocks on, a block's number has one more byte.
func TestP501ManyBlocks(t *testing.T) {
	for _, n := range []int{255 * 32, 256*32 - 1, 256 * 32, 256*32 + 1, 257 * 32, 65537*32 + 5} {
		key, beside, plain := sampleKey(n%7), sample(3), sample(n)
		want := sealed(key, beside, plain)
		if got := seal.Seal(key, beside, plain); !bytes.Equal(got, want) {
			t.Errorf("Seal of %d bytes is wrong", n)
		}
		if got, ok := seal.Open(key, beside, want); !ok || !bytes.Equal(got, plain) {
			t.Errorf("Open of %d bytes is wrong, %t", n, ok)
		}
	}
}

// From 65536 bytes on, the length of beside has a third byte.
func TestP501LongBeside(t *testing.T) {
	key, plain := sampleKey(2), sample(40)
	for _, m := range []int{255, 256, 257, 65535, 65536, 65537, 1 << 20} {
		beside := sample(m)
		want := sealed(key, beside, plain)
		if got := seal.Seal(key, beside, plain); !bytes.Equal(got, want) {
			t.Errorf("Seal beside %d bytes = %x, want %x", m, got, want)
		}
		mustOpen(t, fmt.Sprintf("beside %d bytes", m), key, beside, want, plain)
	}
}

// The plain bytes 0 show the key stream itself: beside has no part in it, and no
// block of it comes twice.
func TestP501KeyStream(t *testing.T) {
	key := sampleKey(3)
	plain := make([]byte, 300*32)
	stream := seal.Seal(key, nil, plain)[:len(plain)]
	if other := seal.Seal(key, sample(20), plain); !bytes.Equal(other[:len(plain)], stream) {
		t.Error("the key stream depends on beside")
	}
	seen := map[string]int{}
	for i := range 300 {
		block := stream[32*i : 32*i+32]
		if !bytes.Equal(block, code(key, []byte{115}, number(i))) {
			t.Errorf("block %d of the key stream = %x", i, block)
		}
		if other, ok := seen[string(block)]; ok {
			t.Errorf("blocks %d and %d of the key stream are the same", other, i)
		}
		seen[string(block)] = i
	}
}

// Every bit of the key shows in the ciphertext and in the tag.
func TestP501KeysOfSingleBits(t *testing.T) {
	seen := map[string]int{}
	for bit := range 256 {
		key := api.Key(inverted(make([]byte, 32), bit))
		got := seal.Seal(key, []byte("a"), sample(16))
		if !bytes.Equal(got, sealed(key, []byte("a"), sample(16))) {
			t.Errorf("Seal with bit %d of the key = %x", bit, got)
		}
		for _, part := range [][]byte{got[:16], got[16:]} {
			if other, ok := seen[string(part)]; ok {
				t.Errorf("bits %d and %d of the key have the same bytes", other, bit)
			}
			seen[string(part)] = bit
		}
	}
}

func TestP501OpenOfFewerThan16(t *testing.T) {
	key := sampleKey(4)
	for _, beside := range [][]byte{nil, {1}, sample(50)} {
		whole := sealed(key, beside, nil)
		for n := range tagSize {
			name := fmt.Sprintf("%d bytes beside %d", n, len(beside))
			mustNotOpen(t, name, key, beside, whole[:n])
			mustNotOpen(t, name, key, beside, whole[tagSize-n:])
			mustNotOpen(t, name, key, beside, bytes.Clone(whole[:n]))
			mustNotOpen(t, name, key, beside, make([]byte, n))
		}
		mustNotOpen(t, "nil", key, beside, nil)
	}
}

func TestP501OpenOfExactly16(t *testing.T) {
	key := sampleKey(5)
	for _, beside := range [][]byte{nil, {1}, sample(50)} {
		whole := sealed(key, beside, nil)
		mustOpen(t, "the tag of no bytes", key, beside, whole, nil)
		for bit := range 8 * tagSize {
			mustNotOpen(t, fmt.Sprintf("bit %d", bit), key, beside, inverted(whole, bit))
		}
		mustNotOpen(t, "16 bytes 0", key, beside, make([]byte, tagSize))
		mustNotOpen(t, "the code's other half", key, beside, fullTag(key, beside, nil)[tagSize:])
	}
}

func TestP501OpenOfInvertedBits(t *testing.T) {
	for _, n := range lengths[:len(lengths)-1] {
		key, beside, plain := sampleKey(n), sample(n/2+1), sample(n)
		whole := sealed(key, beside, plain)
		for bit := range 8 * len(whole) {
			mustNotOpen(t, fmt.Sprintf("%d bytes, bit %d", n, bit), key, beside, inverted(whole, bit))
		}
		for bit := range 8 * len(beside) {
			mustNotOpen(t, fmt.Sprintf("%d bytes, beside's bit %d", n, bit), key, inverted(beside, bit), whole)
		}
		for bit := range 8 * len(key) {
			other := api.Key(inverted(key[:], bit))
			mustNotOpen(t, fmt.Sprintf("%d bytes, the key's bit %d", n, bit), other, beside, whole)
		}
	}
}

// The tag's text would be the same for all divisions, but for beside's length.
func TestP501OpenOfMovedBytes(t *testing.T) {
	key, all := sampleKey(6), sample(40)
	for n := range len(all) + 1 {
		whole := sealed(key, all[:n], all[n:])
		cipher, tag := whole[:len(all)-n], whole[len(all)-n:]
		text := slices.Concat(all[:n], cipher)
		for m := range len(text) + 1 {
			name := fmt.Sprintf("%d bytes beside, then %d", n, m)
			b := slices.Concat(text[m:], tag)
			if m == n {
				mustOpen(t, name, key, text[:m], b, all[n:])
			} else {
				mustNotOpen(t, name, key, text[:m], b)
			}
		}
	}
}

func TestP501OpenOfOtherBeside(t *testing.T) {
	key, plain := sampleKey(7), sample(20)
	besides := [][]byte{nil, {0}, {0, 0}, {1}, {0, 1}, {1, 0}, make([]byte, 8), make([]byte, 9), sample(32), sample(33)}
	for i, beside := range besides {
		whole := seal.Seal(key, beside, plain)
		for j, other := range besides {
			name := fmt.Sprintf("sealed beside %x, opened beside %x", beside, other)
			if i == j {
				mustOpen(t, name, key, other, whole, plain)
			} else {
				mustNotOpen(t, name, key, other, whole)
			}
		}
	}
}

func TestP501OpenOfCutOrLongerBytes(t *testing.T) {
	key, beside := sampleKey(8), sample(5)
	for _, n := range lengths {
		whole := sealed(key, beside, sample(n))
		for cut := range len(whole) {
			mustNotOpen(t, fmt.Sprintf("the first %d of %d", cut, len(whole)), key, beside, whole[:cut])
			mustNotOpen(t, fmt.Sprintf("the last %d of %d", cut, len(whole)), key, beside, whole[len(whole)-cut:])
		}
		mustNotOpen(t, "a byte behind", key, beside, slices.Concat(whole, []byte{0}))
		mustNotOpen(t, "a byte ahead", key, beside, slices.Concat([]byte{0}, whole))
		mustNotOpen(t, "twice", key, beside, slices.Concat(whole, whole))
		cipher := whole[:n]
		mustNotOpen(t, "all 32 bytes of the code", key, beside, slices.Concat(cipher, fullTag(key, beside, cipher)))
		mustNotOpen(t, "the tag ahead", key, beside, slices.Concat(whole[n:], cipher, []byte{0}))
	}
}

func TestP501OpenOfExchangedBlocks(t *testing.T) {
	key := sampleKey(9)
	whole := sealed(key, nil, sample(96))
	mustNotOpen(t, "blocks exchanged", key, nil, slices.Concat(whole[32:64], whole[:32], whole[64:]))
	mustNotOpen(t, "a block left out", key, nil, slices.Concat(whole[:32], whole[64:]))
	other := sealed(key, nil, sample(97))
	mustNotOpen(t, "another one's tag", key, nil, slices.Concat(whole[:96], other[97:]))
}

// The tag is that of the ciphertext: one of the plain bytes, or of a text that
// begins otherwise, opens nothing.
func TestP501OpenOfOtherTags(t *testing.T) {
	key, beside, plain := sampleKey(10), sample(8), sample(50)
	whole := sealed(key, beside, plain)
	cipher := whole[:len(plain)]
	mustOpen(t, "the right tag", key, beside, whole, plain)
	for i, tag := range [][]byte{
		fullTag(key, beside, plain),
		fullTag(key, beside, nil),
		fullTag(key, nil, cipher),
		fullTag(key, cipher, beside),
		fullTag(key, beside, cipher)[tagSize:],
		code(key, []byte{115}, number(len(beside)), beside, cipher),
		code(key, []byte{116}, beside, cipher),
		code(key, []byte{116}, number(len(cipher)), beside, cipher),
		code(key, number(len(beside)), beside, cipher),
		code(key, []byte{115}, number(0)),
		make([]byte, tagSize),
	} {
		mustNotOpen(t, fmt.Sprintf("wrong tag %d", i), key, beside, slices.Concat(cipher, tag[:tagSize]))
	}
}

// Open takes any ciphertext that has its tag, as Seal would have made it of some
// plain bytes.
func TestP501OpenOfEveryTaggedText(t *testing.T) {
	for _, n := range lengths {
		key, beside, cipher := sampleKey(n), sample(n/3), sample(n)
		b := tagged(key, beside, cipher)
		plain, ok := seal.Open(key, beside, b)
		if !ok || !bytes.Equal(seal.Seal(key, beside, plain), b) {
			t.Errorf("%d bytes: Open = %x, %t, which is sealed otherwise", n, plain, ok)
		}
	}
}

// Bytes beyond the length are not part of an argument, even where the capacity
// has them.
func TestP501StopsAtTheLength(t *testing.T) {
	key, besides, plains := sampleKey(11), sample(200), sample(300)
	for _, n := range lengths[:len(lengths)-1] {
		beside, plain := besides[:n], plains[:n]
		want := sealed(key, bytes.Clone(beside), bytes.Clone(plain))
		if got := seal.Seal(key, beside, plain); !bytes.Equal(got, want) {
			t.Errorf("Seal of the first %d bytes = %x, want %x", n, got, want)
		}
		longer := slices.Concat(want, sample(40))
		mustOpen(t, fmt.Sprintf("the first %d bytes", n), key, beside, longer[:len(want)], plain)
	}
}

func TestP502SealLeavesItsArguments(t *testing.T) {
	for _, n := range lengths {
		keys, besides, plains := []api.Key{sampleKey(1), sampleKey(2)}, sample(2000), sample(2001)
		seal.Seal(keys[0], besides[:n], plains[:n])
		if keys[0] != sampleKey(1) || keys[1] != sampleKey(2) {
			t.Errorf("%d bytes: a key was changed", n)
		}
		if !bytes.Equal(besides, sample(2000)) {
			t.Errorf("%d bytes beside, or what lies behind them, were changed", n)
		}
		if !bytes.Equal(plains, sample(2001)) {
			t.Errorf("%d plain bytes, or what lies behind them, were changed", n)
		}
	}
}

func TestP502OpenLeavesItsArguments(t *testing.T) {
	for _, n := range lengths {
		key, besides := sampleKey(1), sample(2000)
		whole := slices.Concat(sealed(key, besides[:n], sample(n)), sample(100))
		for _, b := range [][]byte{whole[:n+tagSize], whole[:n+tagSize-1], whole[:n], whole[:0]} {
			was := bytes.Clone(whole)
			seal.Open(key, besides[:n], b)
			if key != sampleKey(1) || !bytes.Equal(besides, sample(2000)) {
				t.Errorf("%d bytes: the key or beside, or what lies behind it, was changed", n)
			}
			if !bytes.Equal(whole, was) {
				t.Errorf("%d bytes, or what lies behind them, were changed", len(b))
			}
		}
	}
}

// One piece of memory may be both arguments, whole or in part.
func TestP502ArgumentsMayOverlap(t *testing.T) {
	all := sample(300)
	for _, n := range lengths[:len(lengths)-1] {
		for _, at := range []int{0, 1, n} {
			key, beside, plain := sampleKey(n), all[:n], all[at:at+n]
			want := sealed(key, bytes.Clone(beside), bytes.Clone(plain))
			if got := seal.Seal(key, beside, plain); !bytes.Equal(got, want) {
				t.Errorf("Seal of the %d bytes from %d on = %x, want %x", n, at, got, want)
			}
			both := slices.Concat(beside, sealed(key, beside, plain))
			mustOpen(t, fmt.Sprintf("%d bytes", n), key, both[:n], both[n:], plain)
		}
	}
	if !bytes.Equal(all, sample(300)) {
		t.Error("overlapping arguments were changed")
	}
}

func TestP502ArgumentsAreNotKept(t *testing.T) {
	for _, n := range lengths {
		key, beside, plain := sampleKey(n), sample(n+1), sample(n)
		whole := seal.Seal(key, beside, plain)
		back, ok := seal.Open(key, beside, whole)
		want := sealed(key, beside, plain)
		clear(beside)
		clear(plain)
		if !bytes.Equal(whole, want) {
			t.Errorf("%d bytes: what was sealed changed with the arguments", n)
		}
		clear(whole)
		if !ok || !bytes.Equal(back, sample(n)) {
			t.Errorf("%d bytes: what was opened changed with the argument", n)
		}
		if got := seal.Seal(key, beside, plain); !bytes.Equal(got, sealed(key, make([]byte, n+1), make([]byte, n))) {
			t.Errorf("%d bytes: Seal has the bytes of arguments that are there no more", n)
		}
		mustNotOpen(t, "cleared bytes", key, beside, whole)
	}
}

// A caller may write over a result, also behind its end, and that shows nowhere.
func TestP502ResultsAreNotShared(t *testing.T) {
	for _, n := range lengths {
		key, beside, plain := sampleKey(n), sample(n), sample(n)
		want := sealed(key, beside, plain)
		first, second := seal.Seal(key, beside, plain), seal.Seal(key, beside, plain)
		clear(first[:cap(first)])
		if !bytes.Equal(second, want) || !bytes.Equal(seal.Seal(key, beside, plain), want) {
			t.Errorf("%d bytes: a change of what was sealed changed another result", n)
		}
		back, _ := seal.Open(key, beside, second)
		again, _ := seal.Open(key, beside, second)
		clear(back[:cap(back)])
		if !bytes.Equal(again, plain) || !bytes.Equal(second, want) {
			t.Errorf("%d bytes: a change of what was opened changed another result, or the argument", n)
		}
		mustOpen(t, fmt.Sprintf("%d bytes", n), key, beside, second, plain)
		if !bytes.Equal(plain, sample(n)) || !bytes.Equal(beside, sample(n)) {
			t.Errorf("%d bytes: a change of a result changed an argument", n)
		}
	}
}

// A second run in another order would show one call's trace in the next.
func TestP502ResultsDependOnArgumentsOnly(t *testing.T) {
	var first [120][]byte
	for n := range first {
		first[n] = seal.Seal(sampleKey(n), sample(n/2), sample(n))
	}
	for n := len(first) - 1; n >= 0; n-- {
		seal.Seal(sampleKey(n+1), sample(n), sample(2*n))
		if again := seal.Seal(sampleKey(n), sample(n/2), sample(n)); !bytes.Equal(again, first[n]) {
			t.Errorf("Seal of %d bytes: %x, then %x", n, first[n], again)
		}
		mustNotOpen(t, fmt.Sprintf("%d bytes with another key", n), sampleKey(n+1), sample(n/2), first[n])
		mustOpen(t, fmt.Sprintf("%d bytes", n), sampleKey(n), sample(n/2), first[n], sample(n))
	}
}

func TestP502CallsAtOnce(t *testing.T) {
	var wait sync.WaitGroup
	beside := sample(9)
	for n := range 16 {
		wait.Go(func() {
			key := sampleKey(n)
			for m := range 50 {
				plain := sample(10*n + m)
				want := sealed(key, beside, plain)
				if !bytes.Equal(seal.Seal(key, beside, plain), want) {
					t.Errorf("Seal of %d bytes is wrong beside other calls", len(plain))
				}
				if got, ok := seal.Open(key, beside, want); !ok || !bytes.Equal(got, plain) {
					t.Errorf("Open of %d bytes is wrong beside other calls", len(plain))
				}
			}
		})
	}
	wait.Wait()
}
