package sha_test

import (
	"bytes"
	"crypto/sha256"
	"encoding/binary"
	"encoding/hex"
	"strings"
	"sync"
	"testing"

	"courierbag/api"
	"courierbag/sha"
)

// sample has n bytes that differ from one block to the next.
func sample(n int) []byte {
	b := make([]byte, n)
	x := uint32(n) + 1
	for i := range b {
		x = x*1664525 + 1013904223
		b[i] = byte(x >> 24)
	}
	return b
}

// joined has the parts of l, each one behind its length.
func joined(l [][]byte) []byte {
	var all []byte
	for _, part := range l {
		all = binary.BigEndian.AppendUint64(all, uint64(len(part)))
		all = append(all, part...)
	}
	return all
}

func mustBe(t *testing.T, name string, got api.Key, want string) {
	t.Helper()
	if hex.EncodeToString(got[:]) != want {
		t.Errorf("%s = %x, want %s", name, got, want)
	}
}

// These digests are published beside the standard.
func TestP201SumOfPublishedTexts(t *testing.T) {
	for _, c := range []struct{ text, want string }{
		{"", "e3b0c44298fc1c149afbf4c8996fb92427ae41e4649b934ca495991b7852b855"},
		{"abc", "ba7816bf8f01cfea414140de5dae2223b00361a396177a9cb410ff61f20015ad"},
		{"abcdbcdecdefdefgefghfghighijhijkijkljklmklmnlmnomnopnopq",
			"248d6a61d20638b8e5c026930c3e6039a33ce45964ff2167f6ecedd419db06c1"},
		{"abcdefghbcdefghicdefghijdefghijkefghijklfghijklmghijklmnhijklmnoijklmnopjklmnopqklmnopqrlmnopqrsmnopqrstnopqrstu",
			"cf5b16a778af8380036ce59e7b0492370b249b11e8f07a51afac45037afee9d1"},
		{strings.Repeat("a", 1_000_000),
			"cdc76e5c9914fb9281a1c7e284d73e67f1809a48a497200e046d39ccc7112cd0"},
	} {
		mustBe(t, "Sum of "+c.text[:min(8, len(c.text))], sha.Sum([]byte(c.text)), c.want)
	}
}

func TestP201SumOfNothing(t *testing.T) {
	const want = "e3b0c44298fc1c149afbf4c8996fb92427ae41e4649b934ca495991b7852b855"
	mustBe(t, "Sum(nil)", sha.Sum(nil), want)
	mustBe(t, "Sum of an empty slice", sha.Sum([]byte{}), want)
	mustBe(t, "Sum of an empty piece", sha.Sum(sample(100)[:0]), want)
}

// The padding takes one block or two, depending on the length modulo 64.
func TestP201SumOfEveryLength(t *testing.T) {
	for n := range 5 * 64 {
		if b := sample(n); sha.Sum(b) != sha256.Sum256(b) {
			t.Errorf("Sum of %d bytes is wrong", n)
		}
	}
}

func TestP201SumAroundGreatMultiplesOf64(t *testing.T) {
	for _, middle := range []int{512, 1024, 4096, 1 << 16, 1 << 20} {
		for n := middle - 10; n <= middle+10; n++ {
			if b := sample(n); sha.Sum(b) != sha256.Sum256(b) {
				t.Errorf("Sum of %d bytes is wrong", n)
			}
		}
	}
}

func TestP201SumOfEqualBytes(t *testing.T) {
	for _, c := range []byte{0, 1, 0x7f, 0x80, 0xff} {
		for _, n := range []int{1, 55, 56, 63, 64, 65, 119, 120, 128} {
			if b := bytes.Repeat([]byte{c}, n); sha.Sum(b) != sha256.Sum256(b) {
				t.Errorf("Sum of %d bytes %#x is wrong", n, c)
			}
		}
	}
}

// Every single bit of a block goes into the digest.
func TestP201SumOfSingleBits(t *testing.T) {
	for bit := range 8 * 64 {
		b := make([]byte, 64)
		b[bit/8] = 1 << (bit % 8)
		if sha.Sum(b) != sha256.Sum256(b) {
			t.Errorf("Sum of bit %d is wrong", bit)
		}
	}
}

// Bytes beyond the length are not part of b, even where the capacity has them.
func TestP201SumStopsAtTheLength(t *testing.T) {
	b := sample(200)
	for _, n := range []int{0, 3, 63, 64, 65, 128} {
		if sha.Sum(b[:n]) != sha256.Sum256(b[:n]) {
			t.Errorf("Sum of the first %d bytes is wrong", n)
		}
	}
}

func TestP201PartsOfNothing(t *testing.T) {
	const none = "e3b0c44298fc1c149afbf4c8996fb92427ae41e4649b934ca495991b7852b855"
	mustBe(t, "Parts(nil)", sha.Parts(nil), none)
	mustBe(t, "Parts of no parts", sha.Parts([][]byte{}), none)
	// The digest of 8 zero bytes, which are the length of an empty part.
	const one = "af5570f5a1810b7af78caf4bc70a660f0df51e42baf91d4de5b2328de0e83dfc"
	mustBe(t, "Parts of a nil part", sha.Parts([][]byte{nil}), one)
	mustBe(t, "Parts of an empty part", sha.Parts([][]byte{{}}), one)
}

func TestP201PartsTable(t *testing.T) {
	for i, l := range [][][]byte{
		{{}, {}},
		{{1}},
		{{1}, {2}},
		{{1, 2}},
		{nil, {1}, nil},
		{{1}, nil, {2}},
		{sample(56)},
		{sample(64), sample(64)},
		{sample(1000), nil, sample(3), sample(255), sample(256), sample(70000)},
		make([][]byte, 7),
		make([][]byte, 8),
		make([][]byte, 9),
		make([][]byte, 5000),
	} {
		if sha.Parts(l) != sha256.Sum256(joined(l)) {
			t.Errorf("%d: Parts of %d parts is wrong", i, len(l))
		}
	}
}

// The pieces meet the borders of the blocks in every way.
func TestP201PartsOfEveryLength(t *testing.T) {
	for n := range 140 {
		for _, m := range []int{0, 1, 39, 40, 47, 48, 55, 56, 63, 64, 65, 128, 129} {
			l := [][]byte{sample(n), sample(m)}
			if sha.Parts(l) != sha256.Sum256(joined(l)) {
				t.Errorf("Parts of %d and %d bytes is wrong", n, m)
			}
		}
	}
}

func TestP201PartsIsSumOfTheConcatenation(t *testing.T) {
	var l [][]byte
	for n := range 80 {
		if sha.Parts(l) != sha.Sum(joined(l)) {
			t.Errorf("Parts of %d parts is not the Sum of the concatenation", len(l))
		}
		l = append(l, sample(n))
	}
}

// From 2^29 bytes on, the number of bits does not fit in 32 bits. The parts are
// one and the same, to need little memory.
func TestP201PartsCountsItsBitsIn64(t *testing.T) {
	if testing.Short() {
		t.Skip("takes seconds")
	}
	part := sample(1 << 20)
	l := make([][]byte, 1<<9)
	want := sha256.New()
	for i := range l {
		l[i] = part
		want.Write(joined(l[i : i+1]))
	}
	if got := sha.Parts(l); !bytes.Equal(got[:], want.Sum(nil)) {
		t.Error("Parts of 2^29 bytes is wrong")
	}
}

func TestP201PartsTellsPartsApart(t *testing.T) {
	seen := map[api.Key]int{}
	for i, l := range [][][]byte{
		nil,
		{nil},
		{nil, nil},
		{[]byte("ab")},
		{[]byte("a"), []byte("b")},
		{[]byte("b"), []byte("a")},
		{[]byte("ab"), nil},
		{nil, []byte("ab")},
		{joined([][]byte{[]byte("ab")})},
	} {
		got := sha.Parts(l)
		if j, ok := seen[got]; ok {
			t.Errorf("sequences %d and %d have one digest", j, i)
		}
		seen[got] = i
	}
}

func TestP202SumLeavesItsArgument(t *testing.T) {
	for _, n := range []int{0, 1, 55, 56, 63, 64, 65, 130} {
		all := sample(300)
		was := bytes.Clone(all)
		sha.Sum(all[:n])
		if !bytes.Equal(all, was) {
			t.Errorf("Sum of %d bytes changed its argument or what lies behind it", n)
		}
	}
}

func TestP202PartsLeavesItsArgument(t *testing.T) {
	store := sample(300)
	was := bytes.Clone(store)
	all := [][]byte{store[:0], store[:10], nil, store[20:84], store[100:165], store[300:]}
	sha.Parts(all[:4])
	if !bytes.Equal(store, was) {
		t.Error("Parts changed the bytes of a part or what lies behind it")
	}
	if len(all[0]) != 0 || len(all[1]) != 10 || all[2] != nil || len(all[3]) != 64 || len(all[4]) != 65 {
		t.Error("Parts changed the list of parts or what lies behind it")
	}
	if &all[1][0] != &store[0] || &all[3][0] != &store[20] || &all[4][0] != &store[100] {
		t.Error("Parts put other parts in the list")
	}
}

func TestP202ArgumentsAreNotKept(t *testing.T) {
	b := sample(150)
	first := sha.Sum(b)
	was := first
	b[70]++
	if first != was {
		t.Error("the digest changed with the argument")
	}
	if sha.Sum(b) != sha256.Sum256(b) {
		t.Error("Sum has the digest of bytes that are there no more")
	}
	l := [][]byte{b, sample(9)}
	sha.Parts(l)
	b[3]++
	l[1] = nil
	if sha.Parts(l) != sha256.Sum256(joined(l)) {
		t.Error("Parts has the digest of parts that are there no more")
	}
}

func TestP202ResultsAreNotShared(t *testing.T) {
	first := sha.Sum(nil)
	first[0]++
	if again := sha.Sum(nil); again != sha256.Sum256(nil) {
		t.Error("a change of a result changed the next one")
	}
}

// A second run in another order would show one call's trace in the next.
func TestP202ResultsDependOnArgumentsOnly(t *testing.T) {
	var first [200]api.Key
	for n := range first {
		first[n] = sha.Sum(sample(n))
	}
	for n := len(first) - 1; n >= 0; n-- {
		sha.Parts([][]byte{sample(n), sample(2 * n)})
		if again := sha.Sum(sample(n)); again != first[n] {
			t.Errorf("Sum of %d bytes: %x, then %x", n, first[n], again)
		}
	}
}

func TestP202CallsAtOnce(t *testing.T) {
	var wait sync.WaitGroup
	for n := range 16 {
		wait.Go(func() {
			for m := range 100 {
				b := sample(10*n + m)
				if sha.Sum(b) != sha256.Sum256(b) {
					t.Errorf("Sum of %d bytes is wrong beside other calls", len(b))
				}
				l := [][]byte{b, b}
				if sha.Parts(l) != sha256.Sum256(joined(l)) {
					t.Errorf("Parts of %d bytes twice is wrong beside other calls", len(b))
				}
			}
		})
	}
	wait.Wait()
}
