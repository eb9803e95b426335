package codec_test

import (
	"bytes"
	"encoding/binary"
	"encoding/hex"
	"fmt"
	"math"
	"slices"
	"testing"

	"courierbag/api"
	"courierbag/codec"
)

// words has numbers as Go's own library encodes them.
func words(l ...uint64) []byte {
	var b []byte
	for _, x := range l {
		b = binary.BigEndian.AppendUint64(b, x)
	}
	return b
}

// word is for a length or a number of elements.
func word(n int) []byte { return words(uint64(n)) }

// sample has n bytes that no other seed has.
func sample(n, seed int) []byte {
	b := make([]byte, n)
	x := uint32(seed)*2654435761 + 1
	for i := range b {
		x = x*1664525 + 1013904223
		b[i] = byte(x >> 24)
	}
	return b
}

func sampleKey(seed int) api.Key { return api.Key(sample(32, seed+1000)) }

// spread has count numbers from everywhere.
func spread(count int) []uint64 {
	l := make([]uint64, count)
	x := uint64(0x9e3779b97f4a7c15)
	for i := range l {
		x = x*6364136223846793005 + 1442695040888963407
		l[i] = x ^ x>>33
	}
	return l
}

// edges are numbers at which a conversion or a comparison goes over.
func edges() []uint64 {
	return []uint64{0, 1, 255, 256, 1<<31 - 1, 1 << 31, 1<<32 - 1, 1 << 32, 1<<61 - 2, 1<<61 - 1,
		1 << 61, 1<<63 - 1, 1 << 63, 1<<63 + 1, 1<<64 - 2, 1<<64 - 1}
}

// outside are numbers that are no elements.
func outside() []uint64 {
	return []uint64{0, 1<<61 - 1, 1 << 61, 1<<61 + 4, 1<<62 - 2, 1 << 62, 1<<63 - 1, 1 << 63, 1<<63 + 5,
		1<<64 - 2, 1<<64 - 1}
}

// elements has count elements, at both ends of their range first.
func elements(count int) []uint64 {
	l := []uint64{1, 1<<61 - 2, 2, 1<<61 - 3, 37, 1 << 32, 1 << 60}
	for _, x := range spread(count) {
		l = append(l, x%(1<<61-2)+1)
	}
	return l[:count]
}

func entriesOf(count, length int) []api.Entry {
	l := make([]api.Entry, count)
	for i, x := range elements(count) {
		l[i] = api.Entry{X: x, Box: sample(length, i)}
	}
	return l
}

func lettersOf(count, length int) []api.Letter {
	l := make([]api.Letter, count)
	for i := range l {
		l[i] = api.Letter{To: sampleKey(i), Body: sample(length, i)}
	}
	return l
}

func submissionOf(x uint64, box []byte) api.Submission {
	return api.Submission{
		User:  sampleKey(3),
		Entry: api.Entry{X: x, Box: box},
		Proof: api.Proof{C: 0x0102030405060708, S: 0xf1f2f3f4f5f6f7f8},
		Sign:  api.Proof{C: 1 << 63, S: 1<<64 - 1},
	}
}

func batchOf(inner, count, length int) api.Batch {
	return api.Batch{Round: 0x0102030405060708, Chain: 1 << 40, Inner: spread(inner), Letters: lettersOf(count, length)}
}

func noteOf(seq, ack uint64) api.Note {
	return api.Note{Seq: seq, Ack: ack, Payload: [32]byte(sample(32, int(seq%1000)))}
}

// encodedEntries has what the chapter wants of Entries that can be encoded.
func encodedEntries(l []api.Entry) []byte {
	b, length := word(len(l)), 0
	if len(l) > 0 {
		length = len(l[0].Box)
	}
	b = append(b, word(length)...)
	for _, e := range l {
		b = slices.Concat(b, words(e.X), e.Box)
	}
	return b
}

func encodedSubmission(s api.Submission) []byte {
	return slices.Concat(s.User[:], words(s.Entry.X), word(len(s.Entry.Box)), s.Entry.Box,
		words(s.Proof.C, s.Proof.S, s.Sign.C, s.Sign.S))
}

func encodedBatch(x api.Batch) []byte {
	b := slices.Concat(word(x.Round), word(x.Chain), word(len(x.Inner)), words(x.Inner...), word(len(x.Letters)))
	length := 0
	if len(x.Letters) > 0 {
		length = len(x.Letters[0].Body)
	}
	b = append(b, word(length)...)
	for _, l := range x.Letters {
		b = slices.Concat(b, l.To[:], l.Body)
	}
	return b
}

func encodedNote(n api.Note) []byte { return slices.Concat(words(n.Seq, n.Ack), n.Payload[:]) }

// counts and lengths are at their ends, and at numbers that take another byte.
var (
	counts  = []int{0, 1, 2, 3, 7, 8, 9, 20, 21, 255, 256, 257, 999, 1000}
	lengths = []int{0, 1, 2, 7, 8, 9, 31, 32, 33, 255, 256, 257, 1000}
)

// checkBytes wants bytes and no error.
func checkBytes(t *testing.T, name string, got []byte, err api.Errno, want []byte) {
	t.Helper()
	if err != api.OK || !bytes.Equal(got, want) {
		t.Errorf("%s: %d bytes %.100x, %d, want %d bytes %.100x", name, len(got), got, err, len(want), want)
	}
}

// checkFailure wants an error and no bytes, nor capacity for them.
func checkFailure(t *testing.T, name string, got []byte, err, want api.Errno) {
	t.Helper()
	if err != want || cap(got) != 0 {
		t.Errorf("%s: %d bytes, %d, want error %d", name, len(got), err, want)
	}
}

func hexOf(t *testing.T, digits string) []byte {
	t.Helper()
	b, err := hex.DecodeString(digits)
	if err != nil {
		t.Fatal(err)
	}
	return b
}

// rising has n bytes from first on.
func rising(first byte, n int) []byte {
	b := make([]byte, n)
	for i := range b {
		b[i] = first + byte(i)
	}
	return b
}

// The bytes in this and the next three tests were put together apart from any Go
// program.
func TestP1101EntriesFixedBytes(t *testing.T) {
	for _, c := range []struct {
		l    []api.Entry
		want string
	}{
		{nil, "00000000000000000000000000000000"},
		{[]api.Entry{{X: 37}, {X: 5}}, "0000000000000002" + "0000000000000000" + "0000000000000025" + "0000000000000005"},
		{[]api.Entry{{X: 0x0102030405060708, Box: []byte("first")}, {X: 1, Box: []byte("other")}, {X: api.P - 1, Box: []byte("third")}},
			"0000000000000003" + "0000000000000005" + "0102030405060708" + "6669727374" +
				"0000000000000001" + "6f74686572" + "1ffffffffffffffe" + "7468697264"},
	} {
		want := hexOf(t, c.want)
		b, err := codec.Entries(c.l)
		checkBytes(t, "Entries", b, err, want)
		l, err := codec.ReadEntries(want)
		checkMessage(t, "ReadEntries", l, err, c.l)
	}
}

func TestP1101SubmissionFixedBytes(t *testing.T) {
	s := api.Submission{
		User:  api.Key(rising(1, 32)),
		Entry: api.Entry{X: 0x1122334455667788, Box: []byte("box!")},
		Proof: api.Proof{C: 0xfedcba9876543210, S: 1<<64 - 1},
		Sign:  api.Proof{C: 0, S: 1<<63 + 1},
	}
	want := hexOf(t, "0102030405060708090a0b0c0d0e0f101112131415161718191a1b1c1d1e1f20"+
		"1122334455667788"+"0000000000000004"+"626f7821"+
		"fedcba9876543210"+"ffffffffffffffff"+"0000000000000000"+"8000000000000001")
	b, err := codec.Submission(s)
	checkBytes(t, "Submission", b, err, want)
	back, err := codec.ReadSubmission(want)
	checkMessage(t, "ReadSubmission", back, err, s)
}

func TestP1101BatchFixedBytes(t *testing.T) {
	for _, c := range []struct {
		x    api.Batch
		want string
	}{
		{api.Batch{}, "00000000000000000000000000000000000000000000000000000000000000000000000000000000"},
		{api.Batch{Round: 7, Chain: 8, Inner: []uint64{9}},
			"0000000000000007" + "0000000000000008" + "0000000000000001" + "0000000000000009" + "0000000000000000" + "0000000000000000"},
		{api.Batch{
			Round: 0x0102030405060708, Chain: 1<<63 - 1, Inner: []uint64{0, 1<<64 - 1, 0x1213141516171819},
			Letters: []api.Letter{
				{To: api.Key(rising(0x40, 32)), Body: []byte("abc")},
				{To: api.Key(rising(0xe1, 32)), Body: []byte("xyz")},
			}},
			"0102030405060708" + "7fffffffffffffff" + "0000000000000003" +
				"0000000000000000" + "ffffffffffffffff" + "1213141516171819" +
				"0000000000000002" + "0000000000000003" +
				"404142434445464748494a4b4c4d4e4f505152535455565758595a5b5c5d5e5f" + "616263" +
				"e1e2e3e4e5e6e7e8e9eaebecedeeeff0f1f2f3f4f5f6f7f8f9fafbfcfdfeff00" + "78797a"},
	} {
		want := hexOf(t, c.want)
		b, err := codec.Batch(c.x)
		checkBytes(t, "Batch", b, err, want)
		x, err := codec.ReadBatch(want)
		checkMessage(t, "ReadBatch", x, err, c.x)
	}
}

func TestP1101NoteFixedBytes(t *testing.T) {
	checkBytes(t, "Note of nothing", codec.Note(api.Note{}), api.OK, make([]byte, 48))
	n := api.Note{Seq: 0x0102030405060708, Ack: 0xf1f2f3f4f5f6f7f8, Payload: [32]byte(rising(0x80, 32))}
	want := hexOf(t, "0102030405060708"+"f1f2f3f4f5f6f7f8"+
		"808182838485868788898a8b8c8d8e8f909192939495969798999a9b9c9d9e9f")
	checkBytes(t, "Note", codec.Note(n), api.OK, want)
	back, err := codec.ReadNote(want)
	checkMessage(t, "ReadNote", back, err, n)
}

func TestP1101EntriesOfEverySize(t *testing.T) {
	for _, count := range counts {
		for _, length := range lengths {
			l := entriesOf(count, length)
			b, err := codec.Entries(l)
			checkBytes(t, fmt.Sprintf("%d entries, Boxes of %d", count, length), b, err, encodedEntries(l))
		}
	}
}

func TestP1101SubmissionOfEverySize(t *testing.T) {
	for _, length := range lengths {
		for _, x := range elements(9) {
			s := submissionOf(x, sample(length, 1))
			b, err := codec.Submission(s)
			checkBytes(t, fmt.Sprintf("X %d, Box of %d", x, length), b, err, encodedSubmission(s))
		}
	}
}

func TestP1101BatchOfEverySize(t *testing.T) {
	for _, count := range counts {
		for _, length := range lengths {
			x := batchOf((count+length)%21, count, length)
			b, err := codec.Batch(x)
			checkBytes(t, fmt.Sprintf("%d Letters, Bodies of %d", count, length), b, err, encodedBatch(x))
		}
	}
	for inner := range api.MaxHops + 1 {
		x := batchOf(inner, 2, 3)
		b, err := codec.Batch(x)
		checkBytes(t, fmt.Sprintf("%d elements of Inner", inner), b, err, encodedBatch(x))
	}
}

// Nothing is rejected in these places, whatever the number is.
func TestP1101AnyNumbers(t *testing.T) {
	for _, x := range append(edges(), spread(50)...) {
		for _, s := range []api.Submission{
			{Entry: api.Entry{X: 1}, Proof: api.Proof{C: x}}, {Entry: api.Entry{X: 1}, Proof: api.Proof{S: x}},
			{Entry: api.Entry{X: 1}, Sign: api.Proof{C: x}}, {Entry: api.Entry{X: 1}, Sign: api.Proof{S: x}},
		} {
			b, err := codec.Submission(s)
			checkBytes(t, fmt.Sprintf("Submission with %d", x), b, err, encodedSubmission(s))
		}
		batch := api.Batch{Inner: []uint64{x, 3, x}}
		b, err := codec.Batch(batch)
		checkBytes(t, fmt.Sprintf("Batch with %d", x), b, err, encodedBatch(batch))
		for _, n := range []api.Note{noteOf(x, 0), noteOf(0, x), noteOf(x, x)} {
			checkBytes(t, fmt.Sprintf("Note with %d", x), codec.Note(n), api.OK, encodedNote(n))
		}
	}
}

func TestP1101RoundsAndChains(t *testing.T) {
	numbers := []int{0, 1, 255, 256, 1 << 31, 1<<32 - 1, 1 << 32, api.MaxRounds, api.MaxRounds + 1, math.MaxInt - 1, math.MaxInt}
	for _, round := range numbers {
		for _, chain := range numbers {
			x := api.Batch{Round: round, Chain: chain}
			b, err := codec.Batch(x)
			checkBytes(t, fmt.Sprintf("round %d, chain %d", round, chain), b, err, encodedBatch(x))
		}
	}
	for _, below := range []int{-1, -2, -256, -1 << 32, math.MinInt + 1, math.MinInt} {
		for _, x := range []api.Batch{{Round: below}, {Chain: below}, {Round: below, Chain: 5}, {Round: 5, Chain: below}, {Round: below, Chain: below}} {
			x.Inner, x.Letters = []uint64{1}, lettersOf(2, 3)
			b, err := codec.Batch(x)
			checkFailure(t, fmt.Sprintf("round %d, chain %d", x.Round, x.Chain), b, err, api.ErrArg)
		}
	}
}

func TestP1101Nothing(t *testing.T) {
	for _, l := range [][]api.Entry{nil, {}, entriesOf(3, 3)[:0]} {
		b, err := codec.Entries(l)
		checkBytes(t, "no entries", b, err, make([]byte, 16))
	}
	inner, letters := []uint64{1, 2}, lettersOf(3, 3)
	for _, x := range []api.Batch{{Inner: nil, Letters: []api.Letter{}}, {Inner: []uint64{}}, {Inner: inner[:0], Letters: letters[:0]}} {
		b, err := codec.Batch(x)
		checkBytes(t, "no Letters", b, err, make([]byte, 40))
	}
	for _, box := range [][]byte{nil, {}, sample(9, 1)[:0]} {
		b, err := codec.Entries([]api.Entry{{X: 5, Box: box}, {X: 6}, {X: 7, Box: []byte{}}})
		checkBytes(t, "empty Boxes", b, err, words(3, 0, 5, 6, 7))
		s := submissionOf(5, box)
		b, err = codec.Submission(s)
		checkBytes(t, "empty Box", b, err, encodedSubmission(s))
		x := api.Batch{Letters: []api.Letter{{Body: box}, {To: sampleKey(2)}}}
		b, err = codec.Batch(x)
		checkBytes(t, "empty Bodies", b, err, encodedBatch(x))
	}
}

func TestP1101LongestBoxes(t *testing.T) {
	for _, length := range []int{65535, 65536, api.MaxBytes - 1, api.MaxBytes} {
		box := sample(length, 1)
		l := []api.Entry{{X: 5, Box: box}, {X: 6, Box: sample(length, 2)}}
		b, err := codec.Entries(l)
		checkBytes(t, fmt.Sprintf("Boxes of %d", length), b, err, encodedEntries(l))
		s := submissionOf(7, box)
		b, err = codec.Submission(s)
		checkBytes(t, fmt.Sprintf("Box of %d", length), b, err, encodedSubmission(s))
		x := batchOf(1, 2, length)
		b, err = codec.Batch(x)
		checkBytes(t, fmt.Sprintf("Bodies of %d", length), b, err, encodedBatch(x))
	}
}

// Where there is one fault, it is at any place of the list.
func TestP1101EntriesWithAFault(t *testing.T) {
	tooLong := make([]byte, api.MaxBytes+1)
	for _, count := range []int{1, 2, 3, 10} {
		for at := range count {
			l := entriesOf(count, 4)
			l[at].Box = tooLong
			b, err := codec.Entries(l)
			checkFailure(t, fmt.Sprintf("long Box %d of %d", at, count), b, err, api.ErrLong)
			for _, length := range []int{0, 1, 3, 5, 260} {
				if count == 1 {
					continue
				}
				l[at].Box = sample(length, at)
				b, err = codec.Entries(l)
				checkFailure(t, fmt.Sprintf("Box %d of %d has %d bytes", at, count, length), b, err, api.ErrArg)
			}
			l = entriesOf(count, 4)
			for _, x := range outside() {
				l[at].X = x
				b, err = codec.Entries(l)
				checkFailure(t, fmt.Sprintf("X %d of %d is %d", at, count, x), b, err, api.ErrArg)
			}
		}
	}
	for _, count := range []int{api.MaxBatch + 1, api.MaxBatch + 2, 2 * api.MaxBatch, 1 << 16} {
		b, err := codec.Entries(entriesOf(count, 0))
		checkFailure(t, fmt.Sprintf("%d entries", count), b, err, api.ErrLong)
	}
}

// The lengths add up to what they would if they were alike.
func TestP1101UnlikeLengths(t *testing.T) {
	for _, lengths := range [][]int{{2, 1, 3}, {1, 3, 2}, {1, 2, 3}, {0, 2}, {2, 0}, {1, 1, 0, 2}, {5, 5, 6, 4}, {256, 0}, {0, 65536}} {
		var l []api.Entry
		var x api.Batch
		for i, n := range lengths {
			l = append(l, api.Entry{X: 9, Box: sample(n, i)})
			x.Letters = append(x.Letters, api.Letter{Body: sample(n, i)})
		}
		b, err := codec.Entries(l)
		checkFailure(t, fmt.Sprintf("Boxes of %d", lengths), b, err, api.ErrArg)
		b, err = codec.Batch(x)
		checkFailure(t, fmt.Sprintf("Bodies of %d", lengths), b, err, api.ErrArg)
	}
}

func TestP1101SubmissionWithAFault(t *testing.T) {
	for _, length := range []int{api.MaxBytes + 1, api.MaxBytes + 2, 2 * api.MaxBytes} {
		b, err := codec.Submission(submissionOf(5, make([]byte, length)))
		checkFailure(t, fmt.Sprintf("Box of %d", length), b, err, api.ErrLong)
		b, err = codec.Submission(submissionOf(api.P, make([]byte, length)))
		checkFailure(t, fmt.Sprintf("Box of %d, X is P", length), b, err, api.ErrLong)
	}
	for _, x := range outside() {
		for _, length := range []int{0, 4, api.MaxBytes} {
			b, err := codec.Submission(submissionOf(x, make([]byte, length)))
			checkFailure(t, fmt.Sprintf("X is %d, Box of %d", x, length), b, err, api.ErrArg)
		}
	}
	b, err := codec.Submission(api.Submission{})
	checkFailure(t, "Submission of nothing", b, err, api.ErrArg)
}

func TestP1101BatchWithAFault(t *testing.T) {
	tooLong := make([]byte, api.MaxBytes+1)
	for _, count := range []int{1, 2, 3, 10} {
		for at := range count {
			x := batchOf(2, count, 4)
			x.Letters[at].Body = tooLong
			b, err := codec.Batch(x)
			checkFailure(t, fmt.Sprintf("long Body %d of %d", at, count), b, err, api.ErrLong)
			for _, length := range []int{0, 1, 3, 5, 260} {
				if count == 1 {
					continue
				}
				x.Letters[at].Body = sample(length, at)
				b, err = codec.Batch(x)
				checkFailure(t, fmt.Sprintf("Body %d of %d has %d bytes", at, count, length), b, err, api.ErrArg)
			}
		}
	}
	for _, inner := range []int{api.MaxHops + 1, api.MaxHops + 2, 276, api.MaxBatch} {
		b, err := codec.Batch(batchOf(inner, 0, 0))
		checkFailure(t, fmt.Sprintf("%d elements of Inner", inner), b, err, api.ErrLong)
	}
	for _, count := range []int{api.MaxBatch + 1, api.MaxBatch + 2, 1 << 16} {
		b, err := codec.Batch(batchOf(0, count, 0))
		checkFailure(t, fmt.Sprintf("%d Letters", count), b, err, api.ErrLong)
	}
}

// faulty reports whether the faults have the one with this number.
func faulty(faults, number int) bool { return faults>>number&1 == 1 }

// wantedError has the error where the faults below long, by their numbers, are of
// what is too long, and the others are of arguments.
func wantedError(faults, long int) api.Errno {
	switch {
	case faults == 0:
		return api.OK
	case faults%(1<<long) != 0:
		return api.ErrLong
	}
	return api.ErrArg
}

func TestP1101OrderOfErrorsOfEntries(t *testing.T) {
	for faults := range 1 << 4 {
		l := entriesOf(api.MaxBatch, 2)
		if faulty(faults, 0) {
			l = entriesOf(api.MaxBatch+1, 2)
		}
		if faulty(faults, 1) {
			l[len(l)-1].Box = make([]byte, api.MaxBytes+1)
		}
		if faulty(faults, 2) {
			l[1].Box = []byte{7}
		}
		if faulty(faults, 3) {
			l[0].X = 0
		}
		want := wantedError(faults, 2)
		b, err := codec.Entries(l)
		if want == api.OK {
			checkBytes(t, "no faults", b, err, encodedEntries(l))
			continue
		}
		checkFailure(t, fmt.Sprintf("faults %04b", faults), b, err, want)
	}
}

func TestP1101OrderOfErrorsOfBatch(t *testing.T) {
	for faults := range 1 << 6 {
		x := batchOf(api.MaxHops, api.MaxBatch, 2)
		if faulty(faults, 0) {
			x.Inner = spread(api.MaxHops + 1)
		}
		if faulty(faults, 1) {
			x.Letters = lettersOf(api.MaxBatch+1, 2)
		}
		if faulty(faults, 2) {
			x.Letters[len(x.Letters)-1].Body = make([]byte, api.MaxBytes+1)
		}
		if faulty(faults, 3) {
			x.Round = -1
		}
		if faulty(faults, 4) {
			x.Chain = math.MinInt
		}
		if faulty(faults, 5) {
			x.Letters[1].Body = []byte{7}
		}
		want := wantedError(faults, 3)
		b, err := codec.Batch(x)
		if want == api.OK {
			checkBytes(t, "no faults", b, err, encodedBatch(x))
			continue
		}
		checkFailure(t, fmt.Sprintf("faults %06b", faults), b, err, want)
	}
}

// Boxes that are above the limit alike are too long all the same.
func TestP1101AllBoxesTooLong(t *testing.T) {
	for _, length := range []int{api.MaxBytes + 1, api.MaxBytes + 2, 2 * api.MaxBytes, 1<<24 + 5} {
		box := make([]byte, length)
		b, err := codec.Entries([]api.Entry{{X: 0, Box: box}, {X: 1, Box: box}})
		checkFailure(t, fmt.Sprintf("Boxes of %d", length), b, err, api.ErrLong)
		b, err = codec.Batch(api.Batch{Chain: -1, Letters: []api.Letter{{Body: box}, {Body: box}}})
		checkFailure(t, fmt.Sprintf("Bodies of %d", length), b, err, api.ErrLong)
	}
}
