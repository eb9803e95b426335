package codec_test

import (
	"bytes"
	"encoding/binary"
	"fmt"
	"math"
	"reflect"
	"slices"
	"testing"

	"courierbag/api"
	"courierbag/codec"
)

// source is what the tests' own decoders read. They panic with the first error.
type source struct{ b []byte }

func (s *source) take(n uint64) []byte {
	if uint64(len(s.b)) < n {
		panic(api.ErrShort)
	}
	taken := bytes.Clone(s.b[:n])
	s.b = s.b[n:]
	return taken
}

func (s *source) word() uint64 { return binary.BigEndian.Uint64(s.take(8)) }

func (s *source) upTo(limit uint64) uint64 {
	x := s.word()
	if x > limit {
		panic(api.ErrSyntax)
	}
	return x
}

func (s *source) sizes() (uint64, uint64) {
	many := s.upTo(1000)
	each := s.upTo(1 << 20)
	if many == 0 && each != 0 {
		panic(api.ErrSyntax)
	}
	return many, each
}

func (s *source) element() uint64 {
	x := s.upTo(1<<61 - 2)
	if x == 0 {
		panic(api.ErrSyntax)
	}
	return x
}

func (s *source) entries() any {
	l := []api.Entry{}
	many, each := s.sizes()
	for range many {
		x := s.element()
		l = append(l, api.Entry{X: x, Box: s.take(each)})
	}
	return l
}

func (s *source) submission() any {
	var x api.Submission
	x.User = api.Key(s.take(32))
	x.Entry.X = s.element()
	length := s.upTo(1 << 20)
	x.Entry.Box = s.take(length)
	for _, number := range []*uint64{&x.Proof.C, &x.Proof.S, &x.Sign.C, &x.Sign.S} {
		*number = s.word()
	}
	return x
}

func (s *source) batch() any {
	var x api.Batch
	x.Round = int(s.upTo(1<<63 - 1))
	x.Chain = int(s.upTo(1<<63 - 1))
	inner := s.upTo(20)
	for range inner {
		x.Inner = append(x.Inner, s.word())
	}
	many, each := s.sizes()
	for range many {
		to := api.Key(s.take(32))
		x.Letters = append(x.Letters, api.Letter{To: to, Body: s.take(each)})
	}
	return x
}

func (s *source) note() any {
	var n api.Note
	n.Seq = s.word()
	n.Ack = s.word()
	n.Payload = [32]byte(s.take(32))
	return n
}

// kind is one kind of messages.
type kind struct {
	name  string
	read  func(b []byte) (any, api.Errno)
	want  func(s *source) any
	write func(message any) ([]byte, api.Errno)
	zero  any
	some  []any
}

func kinds() []kind {
	return []kind{
		{"Entries",
			func(b []byte) (any, api.Errno) { return codec.ReadEntries(b) },
			(*source).entries,
			func(m any) ([]byte, api.Errno) { return codec.Entries(m.([]api.Entry)) },
			[]api.Entry(nil),
			[]any{[]api.Entry{}, entriesOf(1, 0), entriesOf(3, 0), entriesOf(1, 5), entriesOf(2, 16), entriesOf(5, 3)}},
		{"Submission",
			func(b []byte) (any, api.Errno) { return codec.ReadSubmission(b) },
			(*source).submission,
			func(m any) ([]byte, api.Errno) { return codec.Submission(m.(api.Submission)) },
			api.Submission{},
			[]any{submissionOf(1, nil), submissionOf(api.P-1, sample(1, 1)), submissionOf(37, sample(24, 1))}},
		{"Batch",
			func(b []byte) (any, api.Errno) { return codec.ReadBatch(b) },
			(*source).batch,
			func(m any) ([]byte, api.Errno) { return codec.Batch(m.(api.Batch)) },
			api.Batch{},
			[]any{api.Batch{}, batchOf(1, 0, 0), batchOf(0, 1, 0), batchOf(2, 2, 0), batchOf(0, 1, 9), batchOf(3, 2, 8)}},
		{"Note",
			func(b []byte) (any, api.Errno) { return codec.ReadNote(b) },
			(*source).note,
			func(m any) ([]byte, api.Errno) { return codec.Note(m.(api.Note)), api.OK },
			api.Note{},
			[]any{api.Note{}, noteOf(1, 2), noteOf(1<<63, 1<<64-1)}},
	}
}

// encoded has the bytes of a message of this kind.
func (k kind) encoded(t *testing.T, message any) []byte {
	t.Helper()
	b, err := k.write(message)
	if err != api.OK {
		t.Fatalf("%s of %v: %d", k.name, message, err)
	}
	return b
}

// wanted has what the test's own decoder makes of b.
func (k kind) wanted(b []byte) (message any, err api.Errno) {
	defer func() {
		if met, failed := recover().(api.Errno); failed {
			message, err = k.zero, met
		}
	}()
	s := source{b}
	message = k.want(&s)
	if len(s.b) > 0 {
		panic(api.ErrSyntax)
	}
	return message, api.OK
}

// plain has a message without the difference between nil and empty.
func plain(message any) any {
	switch m := message.(type) {
	case []api.Entry:
		l := []api.Entry{}
		for _, e := range m {
			l = append(l, api.Entry{X: e.X, Box: slices.Concat([]byte{}, e.Box)})
		}
		return l
	case api.Submission:
		m.Entry.Box = slices.Concat(m.Entry.Box)
		return m
	case api.Batch:
		letters := []api.Letter{}
		for _, l := range m.Letters {
			letters = append(letters, api.Letter{To: l.To, Body: slices.Concat([]byte{}, l.Body)})
		}
		m.Inner, m.Letters = slices.Concat(m.Inner), letters
		return m
	}
	return message
}

func same(a, b any) bool { return reflect.DeepEqual(plain(a), plain(b)) }

func checkMessage(t *testing.T, name string, got any, err api.Errno, want any) {
	t.Helper()
	if err != api.OK || !same(got, want) {
		t.Errorf("%s: %.200s, %d, want %.200s", name, fmt.Sprint(got), err, fmt.Sprint(want))
	}
}

// checkRead holds one decoder against the test's own. Beside an error it wants what
// has the zero value, slices without capacity too.
func checkRead(t *testing.T, k kind, b []byte) api.Errno {
	t.Helper()
	got, err := k.read(b)
	want, wantErr := k.wanted(b)
	if err != wantErr || !same(got, want) {
		t.Errorf("Read%s of %.100x = %.200s, %d, want %.200s, %d", k.name, b, fmt.Sprint(got), err, fmt.Sprint(want), wantErr)
	}
	if l, ok := got.([]api.Entry); ok && err != api.OK && cap(l) != 0 {
		t.Errorf("Read%s of %.100x: %d, and room for %d entries", k.name, b, err, cap(l))
	}
	if _, list := got.([]api.Entry); !list && err != api.OK && !reflect.DeepEqual(got, k.zero) {
		t.Errorf("Read%s of %.100x: %d, and %v", k.name, b, err, got)
	}
	return err
}

func kindOf(t *testing.T, name string) kind {
	t.Helper()
	all := kinds()
	at := slices.IndexFunc(all, func(k kind) bool { return k.name == name })
	if at < 0 {
		t.Fatal(name)
	}
	return all[at]
}

// checkError wants an error, and the same of the test's own decoder.
func checkError(t *testing.T, k kind, b []byte, want api.Errno) {
	t.Helper()
	if err := checkRead(t, k, b); err != want {
		t.Errorf("Read%s of %.100x: %d, want %d", k.name, b, err, want)
	}
}

func TestP1102MissingBytes(t *testing.T) {
	for _, k := range kinds() {
		for _, message := range k.some {
			b := k.encoded(t, message)
			for n := range b {
				checkError(t, k, b[:n], api.ErrShort)
				checkError(t, k, bytes.Clone(b[:n]), api.ErrShort)
			}
			checkError(t, k, b, api.OK)
		}
		checkError(t, k, nil, api.ErrShort)
		checkError(t, k, []byte{}, api.ErrShort)
	}
}

func TestP1102BytesThatFollow(t *testing.T) {
	for _, k := range kinds() {
		for _, message := range k.some {
			b := k.encoded(t, message)
			for _, more := range [][]byte{{0}, {1}, {255}, make([]byte, 8), make([]byte, 40), sample(7, 1), sample(100, 2), b} {
				if len(more) > 0 {
					checkError(t, k, slices.Concat(b, more), api.ErrSyntax)
				}
			}
		}
	}
}

// above are numbers above a limit; many of them are not, if only some bits are read.
func above(limit uint64) []uint64 {
	l := []uint64{limit + 1, limit + 2, 2*limit + 1, 1<<32 + limit, 1 << 32, 1<<32 + 1, 1 << 40, 1<<62 + 1}
	return append(l, 1<<63-1, 1<<63, 1<<63+1, 1<<63+limit, math.MaxUint64-1, math.MaxUint64)
}

// The number of elements is read ahead of all else: it does not matter what follows.
func TestP1102TooManyEntries(t *testing.T) {
	k := kindOf(t, "Entries")
	for _, many := range above(api.MaxBatch) {
		for _, rest := range [][]byte{nil, {0}, words(0), words(1), words(1, 5), words(math.MaxUint64), words(0, 0)} {
			checkError(t, k, append(words(many), rest...), api.ErrSyntax)
		}
	}
	for _, many := range []int{api.MaxBatch - 1, api.MaxBatch} {
		for _, length := range []int{0, 1, 10} {
			l := entriesOf(many, length)
			b := encodedEntries(l)
			got, err := codec.ReadEntries(b)
			checkMessage(t, fmt.Sprintf("%d entries", many), got, err, l)
			checkError(t, k, b[:len(b)-1], api.ErrShort)
		}
	}
	b := slices.Concat(words(api.MaxBatch+1, 0), words(elements(api.MaxBatch+1)...))
	checkError(t, k, b, api.ErrSyntax)
}

func TestP1102TooLongBoxes(t *testing.T) {
	entries, submission, batch := kindOf(t, "Entries"), kindOf(t, "Submission"), kindOf(t, "Batch")
	user := make([]byte, 32)
	for _, length := range above(api.MaxBytes) {
		for _, rest := range [][]byte{nil, {0}, words(0), words(1), sample(200, 1)} {
			checkError(t, entries, slices.Concat(words(1, length), rest), api.ErrSyntax)
			checkError(t, entries, slices.Concat(words(api.MaxBatch, length), rest), api.ErrSyntax)
			checkError(t, submission, slices.Concat(user, words(1, length), rest), api.ErrSyntax)
			checkError(t, batch, slices.Concat(words(0, 0, 0, 1, length), rest), api.ErrSyntax)
			checkError(t, batch, slices.Concat(words(0, 0, 1, 7, 2, length), rest), api.ErrSyntax)
		}
	}
	b := slices.Concat(words(1, api.MaxBytes+1, 5), make([]byte, api.MaxBytes+1))
	checkError(t, entries, b, api.ErrSyntax)
	b = slices.Concat(user, words(5, api.MaxBytes+1), make([]byte, api.MaxBytes+1), make([]byte, 32))
	checkError(t, submission, b, api.ErrSyntax)
	b = slices.Concat(words(0, 0, 0, 1, api.MaxBytes+1), make([]byte, 32+api.MaxBytes+1))
	checkError(t, batch, b, api.ErrSyntax)
}

func TestP1102LongestBoxes(t *testing.T) {
	for _, length := range []int{65535, 65536, api.MaxBytes - 1, api.MaxBytes} {
		l := entriesOf(2, length)
		b := encodedEntries(l)
		got, err := codec.ReadEntries(b)
		checkMessage(t, "ReadEntries", got, err, l)
		checkError(t, kindOf(t, "Entries"), b[:len(b)-1], api.ErrShort)
		s := submissionOf(7, sample(length, 1))
		b = encodedSubmission(s)
		back, err := codec.ReadSubmission(b)
		checkMessage(t, "ReadSubmission", back, err, s)
		checkError(t, kindOf(t, "Submission"), b[:len(b)-1], api.ErrShort)
		x := batchOf(2, 2, length)
		b = encodedBatch(x)
		again, err := codec.ReadBatch(b)
		checkMessage(t, "ReadBatch", again, err, x)
		checkError(t, kindOf(t, "Batch"), b[:len(b)-1], api.ErrShort)
	}
}

// A gigabyte is missing.
func TestP1102MuchIsMissing(t *testing.T) {
	checkError(t, kindOf(t, "Entries"), words(api.MaxBatch, api.MaxBytes), api.ErrShort)
	checkError(t, kindOf(t, "Entries"), words(api.MaxBatch, api.MaxBytes, 1), api.ErrShort)
	checkError(t, kindOf(t, "Batch"), words(0, 0, 0, api.MaxBatch, api.MaxBytes), api.ErrShort)
	checkError(t, kindOf(t, "Batch"), words(0, 0, 0, api.MaxBatch, api.MaxBytes, 0, 0, 0, 0), api.ErrShort)
	checkError(t, kindOf(t, "Submission"), slices.Concat(make([]byte, 32), words(1, api.MaxBytes)), api.ErrShort)
}

func TestP1102LengthsOfNothing(t *testing.T) {
	entries, batch := kindOf(t, "Entries"), kindOf(t, "Batch")
	for _, length := range append(above(api.MaxBytes), 1, 2, 8, 255, 256, 65536, api.MaxBytes) {
		for _, rest := range [][]byte{nil, {0}, words(1), sample(50, 1)} {
			checkError(t, entries, slices.Concat(words(0, length), rest), api.ErrSyntax)
			checkError(t, batch, slices.Concat(words(1, 2, 0, 0, length), rest), api.ErrSyntax)
			checkError(t, batch, slices.Concat(words(1, 2, 1, 9, 0, length), rest), api.ErrSyntax)
		}
	}
	checkError(t, entries, words(0, 0), api.OK)
	checkError(t, batch, words(1, 2, 0, 0, 0), api.OK)
	checkError(t, batch, words(1, 2, 1, 9, 0, 0), api.OK)
}

// It is met as soon as X is read, whether or not its Box follows.
func TestP1102WhatIsNoElement(t *testing.T) {
	entries, submission := kindOf(t, "Entries"), kindOf(t, "Submission")
	for _, x := range outside() {
		for _, rest := range [][]byte{nil, {7}, sample(5, 1), sample(6, 1)} {
			checkError(t, entries, slices.Concat(words(1, 5, x), rest), api.ErrSyntax)
			checkError(t, entries, slices.Concat(words(3, 5, x), rest), api.ErrSyntax)
			checkError(t, entries, slices.Concat(words(2, 1, 5), []byte{9}, words(x), rest), api.ErrSyntax)
			checkError(t, entries, slices.Concat(words(2, 0, 5, x), rest), api.ErrSyntax)
		}
		b := slices.Concat(sample(32, 1), words(x))
		for _, rest := range [][]byte{nil, {7}, words(0), words(1), words(api.MaxBytes), words(0, 1, 2, 3, 4)} {
			checkError(t, submission, slices.Concat(b, rest), api.ErrSyntax)
		}
		for n := range words(x) {
			checkError(t, entries, slices.Concat(words(1, 5), words(x)[:n]), api.ErrShort)
			checkError(t, submission, b[:32+n], api.ErrShort)
		}
		for at := range 4 {
			l := entriesOf(4, 6)
			l[at].X = x
			checkError(t, entries, encodedEntries(l), api.ErrSyntax)
		}
	}
}

func TestP1102RoundsAndChains(t *testing.T) {
	k := kindOf(t, "Batch")
	for _, x := range []uint64{1 << 63, 1<<63 + 1, 1<<63 + 1<<32, math.MaxUint64 - 1, math.MaxUint64} {
		for _, rest := range [][]byte{nil, {0}, words(0, 0, 0), words(0, 0, 0, 0)} {
			checkError(t, k, slices.Concat(words(x), rest), api.ErrSyntax)
			checkError(t, k, slices.Concat(words(0, x), rest), api.ErrSyntax)
			checkError(t, k, slices.Concat(words(1<<63-1, x), rest), api.ErrSyntax)
			checkError(t, k, slices.Concat(words(x, x), rest), api.ErrSyntax)
		}
	}
	for _, x := range []uint64{0, 1, 1 << 31, 1 << 32, api.MaxRounds, api.MaxRounds + 1, 1<<63 - 2, 1<<63 - 1} {
		got, err := codec.ReadBatch(words(x, 3, 0, 0, 0))
		checkMessage(t, fmt.Sprintf("round %d", x), got, err, api.Batch{Round: int(x), Chain: 3})
		got, err = codec.ReadBatch(words(3, x, 0, 0, 0))
		checkMessage(t, fmt.Sprintf("chain %d", x), got, err, api.Batch{Round: 3, Chain: int(x)})
		checkError(t, k, words(x), api.ErrShort)
		checkError(t, k, words(x, x), api.ErrShort)
	}
}

func TestP1102TooManyOfABatch(t *testing.T) {
	k := kindOf(t, "Batch")
	for _, many := range above(api.MaxHops) {
		for _, rest := range [][]byte{nil, {0}, words(1), words(0, 0), words(math.MaxUint64)} {
			checkError(t, k, slices.Concat(words(1, 2, many), rest), api.ErrSyntax)
		}
	}
	for _, many := range above(api.MaxBatch) {
		for _, rest := range [][]byte{nil, {0}, words(0), words(1), words(math.MaxUint64)} {
			checkError(t, k, slices.Concat(words(1, 2, 0, many), rest), api.ErrSyntax)
			checkError(t, k, slices.Concat(words(1, 2, 2, 3, 4, many), rest), api.ErrSyntax)
		}
	}
	checkError(t, k, encodedBatch(batchOf(api.MaxHops+1, 0, 0)), api.ErrSyntax)
	checkError(t, k, encodedBatch(batchOf(0, api.MaxBatch+1, 0)), api.ErrSyntax)
	x := batchOf(api.MaxHops, api.MaxBatch, 3)
	got, err := codec.ReadBatch(encodedBatch(x))
	checkMessage(t, "as many as can be", got, err, x)
}

// The numbers of a message are put in at every place of another one, so that all
// kinds of faults are met, and several at once.
func TestP1102NumbersAtEveryPlace(t *testing.T) {
	numbers := append(outside(), 1, 2, 5, 8, 20, 21, 1000, 1001, api.MaxBytes, api.MaxBytes+1, 1<<61-2, 1<<32, 1<<32+1)
	for _, k := range kinds() {
		for _, message := range k.some {
			b := k.encoded(t, message)
			for at := 0; at+8 <= len(b); at++ {
				for _, x := range numbers {
					changed := slices.Concat(b[:at], words(x), b[at+8:])
					checkRead(t, k, changed)
					checkRead(t, k, changed[:at+8])
					checkRead(t, k, changed[:len(changed)-1])
					checkRead(t, k, append(changed, 0))
				}
			}
		}
	}
}

func TestP1102OtherBytes(t *testing.T) {
	for _, k := range kinds() {
		for _, message := range k.some {
			b := k.encoded(t, message)
			for at := range b {
				for _, flip := range []byte{1, 2, 16, 128, 255} {
					changed := bytes.Clone(b)
					changed[at] ^= flip
					checkRead(t, k, changed)
				}
				checkRead(t, k, slices.Concat(b[:at], b[at+1:]))
				checkRead(t, k, slices.Concat(b[:at], []byte{0}, b[at:]))
			}
		}
	}
}

// Numbers are small here, so that many of the messages can be decoded.
func TestP1102ArbitraryNumbers(t *testing.T) {
	var fine int
	numbers := spread(40000)
	for i := range numbers[20:] {
		var b []byte
		for _, x := range numbers[i : i+int(numbers[i]>>8%16)] {
			b = append(b, words(x>>32%4)...)
		}
		for _, k := range kinds() {
			if checkRead(t, k, b) == api.OK {
				fine++
			}
		}
	}
	if fine < 100 {
		t.Errorf("only %d could be decoded", fine)
	}
}

func TestP1102ArbitraryBytes(t *testing.T) {
	for seed := range 3000 {
		b := sample(seed%120, seed)
		for _, k := range kinds() {
			checkRead(t, k, b)
			checkRead(t, k, make([]byte, seed%120))
		}
	}
}
