package codec_test

import (
	"bytes"
	"fmt"
	"slices"
	"sync"
	"testing"

	"courierbag/api"
	"courierbag/codec"
)

func TestP1103DecodingReturnsTheMessage(t *testing.T) {
	for _, k := range kinds() {
		for _, message := range k.some {
			got, err := k.read(k.encoded(t, message))
			checkMessage(t, k.name, got, err, message)
		}
	}
	for _, count := range counts {
		for _, length := range lengths {
			for _, c := range []struct {
				kind    kind
				message any
			}{
				{kindOf(t, "Entries"), entriesOf(count, length)},
				{kindOf(t, "Submission"), submissionOf(elements(count + 1)[count], sample(length, count))},
				{kindOf(t, "Batch"), batchOf((count+length)%21, count, length)},
				{kindOf(t, "Note"), noteOf(uint64(count), uint64(length))},
			} {
				got, err := c.kind.read(c.kind.encoded(t, c.message))
				checkMessage(t, fmt.Sprintf("%s of %d, %d", c.kind.name, count, length), got, err, c.message)
			}
		}
	}
}

func TestP1103DecodingReturnsAnyNumbers(t *testing.T) {
	for _, x := range append(edges(), spread(50)...) {
		s := submissionOf(5, nil)
		s.Proof, s.Sign = api.Proof{C: x, S: ^x}, api.Proof{C: x + 1, S: x / 2}
		got, err := codec.ReadSubmission(kindOf(t, "Submission").encoded(t, s))
		checkMessage(t, fmt.Sprintf("Submission with %d", x), got, err, s)
		batch := api.Batch{Inner: []uint64{x, ^x, x}}
		back, err := codec.ReadBatch(kindOf(t, "Batch").encoded(t, batch))
		checkMessage(t, fmt.Sprintf("Batch with %d", x), back, err, batch)
		n := noteOf(x, ^x)
		again, err := codec.ReadNote(codec.Note(n))
		checkMessage(t, fmt.Sprintf("Note with %d", x), again, err, n)
	}
}

// Whatever can be decoded has one encoding only.
func TestP1103EncodingReturnsTheBytes(t *testing.T) {
	for _, k := range kinds() {
		for _, message := range k.some {
			b := k.encoded(t, message)
			for at := range b {
				for flip := range 8 {
					changed := bytes.Clone(b)
					changed[at] ^= 1 << flip
					decoded, err := k.read(changed)
					if err != api.OK {
						continue
					}
					again, err := k.write(decoded)
					checkBytes(t, k.name, again, err, changed)
				}
			}
		}
	}
}

// guarded has b within memory that must not be changed beside it.
func guarded(b []byte) (all, piece []byte) {
	all = slices.Concat([]byte{1, 2, 3}, b, []byte{4, 5, 6, 7, 8, 9, 10, 11, 12})
	return all, all[3 : 3+len(b)]
}

func TestP1103BytesAreNotModified(t *testing.T) {
	for _, k := range kinds() {
		for _, message := range k.some {
			b := k.encoded(t, message)
			for n := range len(b) + 1 {
				all, piece := guarded(b[:n])
				before := bytes.Clone(all)
				k.read(piece)
				if !bytes.Equal(all, before) {
					t.Errorf("Read%s changed %x to %x", k.name, before, all)
				}
			}
		}
	}
}

// Where something has spare capacity, all of it is looked at.
func TestP1103MessagesAreNotModified(t *testing.T) {
	for _, length := range []int{0, 1, 8, 20} {
		whole, bent := entriesOf(6, length+4), entriesOf(6, length+4)
		for _, l := range [][]api.Entry{whole, bent} {
			for i := range l {
				l[i].Box = l[i].Box[:length]
			}
		}
		bent[1].X = 0
		for _, l := range [][]api.Entry{whole[:4], bent[:4]} {
			before := everything(l[:6])
			codec.Entries(l)
			codec.Submission(api.Submission{Entry: l[1]})
			if after := everything(l[:6]); !same(after, before) {
				t.Errorf("Boxes of %d: %v became %v", length, before, after)
			}
		}
		x := batchOf(5, 6, length+4)
		for i := range x.Letters {
			x.Letters[i].Body = x.Letters[i].Body[:length]
		}
		for _, round := range []int{7, -7} {
			part := api.Batch{Round: round, Inner: x.Inner[:3], Letters: x.Letters[:4]}
			before := everythingOf(x)
			codec.Batch(part)
			if after := everythingOf(x); !same(after, before) {
				t.Errorf("Bodies of %d: %v became %v", length, before, after)
			}
		}
	}
}

// everything has copies of entries with all that their Boxes have room for.
func everything(l []api.Entry) []api.Entry {
	l = slices.Clone(l)
	for i, e := range l {
		l[i].Box = bytes.Clone(e.Box[:cap(e.Box)])
	}
	return l
}

func everythingOf(x api.Batch) api.Batch {
	x.Inner, x.Letters = slices.Clone(x.Inner), slices.Clone(x.Letters)
	for i, l := range x.Letters {
		x.Letters[i].Body = bytes.Clone(l.Body[:cap(l.Body)])
	}
	return x
}

// What lies behind the length is not read.
func TestP1103OnlyTheLengthCounts(t *testing.T) {
	for _, k := range kinds() {
		for _, message := range k.some {
			b := k.encoded(t, message)
			for n := range b {
				checkError(t, k, b[:n:len(b)], api.ErrShort)
			}
			for _, behind := range []byte{0, 255} {
				longer := slices.Concat(b, bytes.Repeat([]byte{behind}, 50))
				checkError(t, k, longer[:len(b)], api.OK)
			}
		}
	}
	l := []api.Entry{{X: 5, Box: make([]byte, 2, 2*api.MaxBytes)}, {X: 6, Box: sample(3, 2)[:2]}}
	more := append(l, api.Entry{X: 0, Box: sample(1, 3)})
	b, err := codec.Entries(more[:2])
	checkBytes(t, "Entries", b, err, encodedEntries(l))
	s := submissionOf(7, l[0].Box)
	b, err = codec.Submission(s)
	checkBytes(t, "Submission", b, err, encodedSubmission(s))
	x := batchOf(api.MaxHops+1, 3, 2)
	x.Inner, x.Letters[0].Body, x.Letters[2].Body = x.Inner[:1], l[0].Box, nil
	x.Letters = x.Letters[:2]
	b, err = codec.Batch(x)
	checkBytes(t, "Batch", b, err, encodedBatch(x))
}

// fill writes over b and all that it has room for.
func fill(b []byte) {
	b = b[:cap(b)]
	for i := range b {
		b[i] = 0xee
	}
}

func TestP1103BytesAreNotKept(t *testing.T) {
	for _, k := range kinds() {
		for _, message := range k.some {
			b := k.encoded(t, message)
			got, err := k.read(b)
			fill(b)
			checkMessage(t, "Read"+k.name, got, err, message)
		}
	}
}

func TestP1103MessagesAreNotKept(t *testing.T) {
	l := entriesOf(5, 7)
	want := encodedEntries(l)
	b, err := codec.Entries(l)
	for i := range l {
		fill(l[i].Box)
		l[i].X = 3
	}
	checkBytes(t, "Entries", b, err, want)
	s := submissionOf(5, sample(7, 1))
	want = encodedSubmission(s)
	b, err = codec.Submission(s)
	fill(s.Entry.Box)
	checkBytes(t, "Submission", b, err, want)
	x := batchOf(5, 5, 7)
	want = encodedBatch(x)
	b, err = codec.Batch(x)
	for i := range x.Letters {
		fill(x.Letters[i].Body)
		x.Letters[i].To = api.Key{}
		x.Inner[i] = 3
	}
	checkBytes(t, "Batch", b, err, want)
}

// Each result can be written over, with all its capacity, and the others stay.
func TestP1103EncodingsAreSeparate(t *testing.T) {
	for _, k := range kinds() {
		for _, message := range k.some {
			first, second := k.encoded(t, message), k.encoded(t, message)
			want := bytes.Clone(second)
			fill(first)
			checkBytes(t, k.name, second, api.OK, want)
			checkBytes(t, k.name, k.encoded(t, message), api.OK, want)
		}
	}
}

func TestP1103SlicesOfEntriesAreSeparate(t *testing.T) {
	want := entriesOf(9, 5)
	b := encodedEntries(want)
	other, otherErr := codec.ReadEntries(b)
	for at := range want {
		got, err := codec.ReadEntries(b)
		fill(got[at].Box)
		got[at].Box = bytes.Clone(want[at].Box)
		checkMessage(t, fmt.Sprintf("Box %d was written over", at), got, err, want)
	}
	got, _ := codec.ReadEntries(b)
	for i := range got[:cap(got)] {
		got[:cap(got)][i] = api.Entry{}
	}
	checkMessage(t, "another result", other, otherErr, want)
}

func TestP1103SlicesOfABatchAreSeparate(t *testing.T) {
	want := batchOf(9, 9, 5)
	b := encodedBatch(want)
	other, otherErr := codec.ReadBatch(b)
	for at := range want.Letters {
		got, err := codec.ReadBatch(b)
		fill(got.Letters[at].Body)
		got.Letters[at].Body = bytes.Clone(want.Letters[at].Body)
		checkMessage(t, fmt.Sprintf("Body %d was written over", at), got, err, want)
	}
	got, _ := codec.ReadBatch(b)
	for i := range got.Inner[:cap(got.Inner)] {
		got.Inner[:cap(got.Inner)][i] = 3
	}
	for i := range got.Letters[:cap(got.Letters)] {
		got.Letters[:cap(got.Letters)][i] = api.Letter{}
	}
	checkMessage(t, "another result", other, otherErr, want)
}

func TestP1103SubmissionsAreSeparate(t *testing.T) {
	want := submissionOf(5, sample(7, 1))
	b := encodedSubmission(want)
	first, _ := codec.ReadSubmission(b)
	second, err := codec.ReadSubmission(b)
	fill(first.Entry.Box)
	checkMessage(t, "another result", second, err, want)
}

// One Box may stand in several places of what is encoded.
func TestP1103ArgumentsMayShareMemory(t *testing.T) {
	memory := sample(12, 1)
	l := []api.Entry{{X: 1, Box: memory[:8]}, {X: 2, Box: memory[2:10]}, {X: 3, Box: memory[:8]}, {X: 4, Box: memory[4:]}}
	b, err := codec.Entries(l)
	checkBytes(t, "Entries", b, err, encodedEntries(l))
	got, err := codec.ReadEntries(b)
	fill(got[0].Box)
	got[0].Box = memory[:8]
	checkMessage(t, "ReadEntries", got, err, l)
	x := api.Batch{Letters: []api.Letter{{Body: memory[:8]}, {Body: memory[2:10]}, {Body: memory[:8]}}}
	b, err = codec.Batch(x)
	checkBytes(t, "Batch", b, err, encodedBatch(x))
}

// reply is what one call gave.
type reply struct {
	message any
	b       []byte
	err     api.Errno
}

// calls are many calls of all functions, some of which fail.
func calls(t *testing.T) []func() reply {
	t.Helper()
	var all []func() reply
	for _, k := range kinds() {
		for _, message := range k.some {
			b := k.encoded(t, message)
			all = append(all, func() reply {
				got, err := k.write(message)
				return reply{nil, got, err}
			})
			for _, given := range [][]byte{b, b[:len(b)-1], b[:len(b)/2], append(slices.Clip(b), 7), sample(len(b), 3)} {
				all = append(all, func() reply {
					got, err := k.read(given)
					return reply{got, nil, err}
				})
			}
		}
	}
	bent := entriesOf(3, 3)
	bent[1].X = 0
	for _, l := range [][]api.Entry{bent, entriesOf(api.MaxBatch+1, 0)} {
		all = append(all, func() reply {
			got, err := codec.Entries(l)
			return reply{nil, got, err}
		})
	}
	return append(all, func() reply {
		got, err := codec.Batch(api.Batch{Round: -1})
		return reply{nil, got, err}
	})
}

func checkReply(t *testing.T, number int, got, want reply) {
	t.Helper()
	if got.err != want.err || !bytes.Equal(got.b, want.b) || !same(got.message, want.message) {
		t.Errorf("call %d: %v, then %v", number, want, got)
	}
}

func TestP1103ResultsDependOnArgumentsOnly(t *testing.T) {
	all := calls(t)
	first := make([]reply, len(all))
	for i, call := range all {
		first[i] = call()
	}
	for i, call := range slices.Backward(all) {
		checkReply(t, i, call(), first[i])
	}
}

// atOnce makes the calls many times, from many goroutines that begin at unlike ones.
func atOnce(t *testing.T, rounds int, all []func() reply) {
	t.Helper()
	want := make([]reply, len(all))
	for i, call := range all {
		want[i] = call()
	}
	var group sync.WaitGroup
	for worker := range 16 {
		group.Go(func() {
			for step := range rounds * len(all) {
				i := (step + worker*7) % len(all)
				checkReply(t, i, all[i](), want[i])
			}
		})
	}
	group.Wait()
}

func TestP1103CallsAtOnce(t *testing.T) { atOnce(t, 3, calls(t)) }

// Calls of one function alone, and longer ones, meet each other more often.
func TestP1103CallsOfOneFunctionAtOnce(t *testing.T) {
	messages := map[string][]any{
		"Entries":    {entriesOf(300, 9), entriesOf(299, 10), entriesOf(100, 7)},
		"Submission": {submissionOf(5, sample(3000, 1)), submissionOf(6, sample(2999, 2)), submissionOf(7, nil)},
		"Batch":      {batchOf(20, 200, 9), batchOf(19, 199, 10), batchOf(1, 100, 3)},
		"Note":       {noteOf(1, 2), noteOf(3, 4), noteOf(5, 6)},
	}
	for _, k := range kinds() {
		var writing, reading []func() reply
		for _, message := range messages[k.name] {
			b := k.encoded(t, message)
			writing = append(writing, func() reply {
				got, err := k.write(message)
				return reply{nil, got, err}
			})
			reading = append(reading, func() reply {
				got, err := k.read(b)
				return reply{got, nil, err}
			})
		}
		rounds := 20000 / len(k.encoded(t, messages[k.name][0]))
		atOnce(t, 50+5*rounds, writing)
		atOnce(t, 50+5*rounds, reading)
	}
}
