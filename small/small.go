// Package small puts numbers into raw's small bytes, one behind the other, and takes them out again: for each layer whose things stand as such bytes.
package small

import (
	"bytes"
	"math"

	"stopline/api"
	"stopline/raw"
)

const sumLen = 4

// Append is list, and behind it each number's small bytes; the numbers are not below 0.
func Append(list []byte, more ...int) []byte {
	for _, n := range more {
		list = append(list, raw.Small(uint64(n))...)
	}
	return list
}

// WithSum is list, and behind it its sum.
func WithSum(list []byte) []byte { return append(list, sumOf(list)...) }

// AheadOfSum are the bytes ahead of their sum, and whether that stands behind them.
func AheadOfSum(b []byte) ([]byte, bool) {
	if len(b) < sumLen {
		return nil, false
	}
	told, sum := b[:len(b)-sumLen], b[len(b)-sumLen:]
	return told, bytes.Equal(sum, sumOf(told))
}

// sumOf asks for no error: every sum has four bytes.
func sumOf(b []byte) []byte {
	list, _ := raw.Put(uint64(raw.Sum(b)), sumLen)
	return list
}

// Reader reads small bytes, number by number. Where one may not be, it is bad for good and tells noughts: so it is asked once, at the end.
type Reader struct {
	rest []byte
	bad  bool
}

// ReaderOf is a reader of b, which it only reads.
func ReaderOf(b []byte) Reader { return Reader{rest: b} }

// UpTo is the next number, which must not be above most: what it is put into holds it then.
func (r *Reader) UpTo(most uint64) uint64 {
	n, many, e := raw.Read(r.rest)
	if r.bad || e != api.OK || n > most {
		r.bad = true
		return 0
	}
	r.rest = r.rest[many:]
	return n
}

// Number is the next number, which must not be above MaxTicks: no number of a site or of a region is, but for the sets.
func (r *Reader) Number() int { return int(r.UpTo(api.MaxTicks)) }

// Many is how many parts come: bounded, as room is made for them ahead of reading them.
func (r *Reader) Many(most int) int { return int(r.UpTo(uint64(most))) }

// Piece is as many of the bytes as the next number tells, behind that.
func (r *Reader) Piece() []byte {
	many := r.UpTo(math.MaxUint64)
	if many > uint64(len(r.rest)) {
		r.bad = true
		return nil
	}
	piece := r.rest[:many]
	r.rest = r.rest[many:]
	return piece
}

// Done tells whether all bytes were numbers that might be, and none is left.
func (r *Reader) Done() bool { return !r.bad && len(r.rest) == 0 }

// List is what is read so many times.
func List[T any](many int, next func() T) []T {
	list := make([]T, many)
	for i := range list {
		list[i] = next()
	}
	return list
}
