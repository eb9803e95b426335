package codec

import (
	"math"

	"courierbag/api"
	"courierbag/group"
	"courierbag/words"
)

// ReadEntries decodes what Entries encodes.
func ReadEntries(b []byte) ([]api.Entry, api.Errno) {
	r := reader{rest: b}
	many, each := r.sizes()
	var l []api.Entry
	for range many {
		l = append(l, api.Entry{X: r.element(), Box: r.take(each)})
	}
	if err := r.end(); err != api.OK {
		return nil, err
	}
	return l, api.OK
}

// ReadSubmission decodes what Submission encodes.
func ReadSubmission(b []byte) (api.Submission, api.Errno) {
	r := reader{rest: b}
	s := api.Submission{
		User:  r.key(),
		Entry: api.Entry{X: r.element(), Box: r.take(r.count(api.MaxBytes))},
		Proof: r.proof(),
		Sign:  r.proof(),
	}
	if err := r.end(); err != api.OK {
		return api.Submission{}, err
	}
	return s, api.OK
}

// ReadBatch decodes what Batch encodes.
func ReadBatch(b []byte) (api.Batch, api.Errno) {
	r := reader{rest: b}
	x := api.Batch{Round: r.count(math.MaxInt), Chain: r.count(math.MaxInt)}
	for range r.count(api.MaxHops) {
		x.Inner = append(x.Inner, r.number(math.MaxUint64))
	}
	many, each := r.sizes()
	for range many {
		x.Letters = append(x.Letters, api.Letter{To: r.key(), Body: r.take(each)})
	}
	if err := r.end(); err != api.OK {
		return api.Batch{}, err
	}
	return x, api.OK
}

// ReadNote decodes what Note encodes.
func ReadNote(b []byte) (api.Note, api.Errno) {
	r := reader{rest: b}
	n := api.Note{Seq: r.number(math.MaxUint64), Ack: r.number(math.MaxUint64)}
	copy(n.Payload[:], r.take(api.Payload))
	if err := r.end(); err != api.OK {
		return api.Note{}, err
	}
	return n, api.OK
}

// reader takes a message apart from left to right. It keeps the first error that it
// meets; from then on whatever it reads is zero.
type reader struct {
	rest []byte
	err  api.Errno
}

func (r *reader) fail(err api.Errno) {
	if r.err == api.OK {
		r.err = err
	}
}

// take reads n bytes into memory of their own.
func (r *reader) take(n int) []byte {
	if len(r.rest) < n {
		r.fail(api.ErrShort)
	}
	if r.err != api.OK {
		return nil
	}
	taken := append([]byte(nil), r.rest[:n]...)
	r.rest = r.rest[n:]
	return taken
}

// number reads a number that is at most limit.
func (r *reader) number(limit uint64) uint64 {
	x, err := words.Get64(r.take(8), 0)
	r.fail(err)
	if x > limit {
		r.fail(api.ErrSyntax)
		return 0
	}
	return x
}

// count reads a number that is at most limit, which an int can hold.
func (r *reader) count(limit int) int { return int(r.number(uint64(limit))) }

// sizes reads how many Boxes or Bodies there are, and the length of each. Nothing is
// set aside for them: a few bytes can tell of a gigabyte that does not follow.
func (r *reader) sizes() (many, each int) {
	many = r.count(api.MaxBatch)
	if many == 0 {
		return 0, r.count(0)
	}
	return many, r.count(api.MaxBytes)
}

func (r *reader) element() uint64 {
	x := r.number(math.MaxUint64)
	if !group.Right(x) {
		r.fail(api.ErrSyntax)
	}
	return x
}

func (r *reader) proof() api.Proof {
	return api.Proof{C: r.number(math.MaxUint64), S: r.number(math.MaxUint64)}
}

func (r *reader) key() api.Key {
	var k api.Key
	copy(k[:], r.take(len(k)))
	return k
}

// end returns the first error; that bytes are left is the last one that can be met.
func (r *reader) end() api.Errno {
	if len(r.rest) > 0 {
		r.fail(api.ErrSyntax)
	}
	return r.err
}
