// Package words is layer 1: words of eight bytes, as bytes, as fields, as bits. See shared/doc/01-words.md.
package words

import (
	"cmp"
	"iter"

	"hedgerow/api"
)

const (
	wordBytes = 8
	wordBits  = 64
)

// mask is the bits of a field, as they stand in a word.
type mask uint64

func (m mask) of(w uint64) uint64 { return w & uint64(m) }

func (m mask) without(w uint64) uint64 { return w &^ uint64(m) }

// within says whether n lies between two bounds, both allowed.
func within[N cmp.Ordered](n, low, high N) bool { return low <= n && n <= high }

// fieldMask tells the bits of a field, and whether there is such a field.
func fieldMask(at, width int) (mask, bool) {
	if !within(at, 0, wordBits-1) || !within(width, 1, wordBits-at) {
		return 0, false
	}
	return mask(^uint64(0) >> (wordBits - width) << at), true
}

// Bytes tells the bytes of words, one behind the other.
func Bytes(l ...uint64) []byte {
	out := make([]byte, 0, len(l)*wordBytes)
	move := func(w uint64) {
		for i := range wordBytes {
			out = append(out, byte(w>>(8*i)))
		}
	}
	for _, w := range l {
		move(w)
	}
	return out
}

// Words tells the words of bytes: ErrArg, if these are no multiple of eight.
func Words(b []byte) ([]uint64, api.Errno) {
	if len(b)%wordBytes != 0 {
		return nil, api.ErrArg
	}
	return Lay(b), api.OK
}

// Lay lays bytes into words, noughts behind the last one.
func Lay(b []byte) []uint64 {
	out := make([]uint64, wordsFor(len(b)))
	move := func(i int) {
		out[i/wordBytes] |= uint64(b[i]) << (8 * (i % wordBytes))
	}
	for i := range b {
		move(i)
	}
	return out
}

// wordsFor tells how many words so many bytes need; it divides first, since n may be huge.
func wordsFor(n int) int {
	if n%wordBytes == 0 {
		return n / wordBytes
	}
	return n/wordBytes + 1
}

// Take tells the n bytes that were laid: ErrArg, if the words are not just those of n bytes.
func Take(l []uint64, n int) ([]byte, api.Errno) {
	if n < 0 || len(l) != wordsFor(n) {
		return nil, api.ErrArg
	}
	all := Bytes(l...)
	for _, b := range all[n:] {
		if b != 0 {
			return nil, api.ErrArg
		}
	}
	return all[:n:n], api.OK
}

// Field tells a field's value: ErrArg, if there is no such field.
func Field(w uint64, at, width int) (uint64, api.Errno) {
	m, ok := fieldMask(at, width)
	if !ok {
		return 0, api.ErrArg
	}
	pick := m.of
	return pick(w) >> at, api.OK
}

// With tells the word whose field has the value: ErrArg, if there is no such field; ErrRange, if it does not hold the value.
func With(w uint64, at, width int, v uint64) (uint64, api.Errno) {
	m, ok := fieldMask(at, width)
	if !ok {
		return 0, api.ErrArg
	}
	if !within(v, 0, uint64(m)>>at) {
		return 0, api.ErrRange
	}
	rest := m.without
	return rest(w) | v<<at, api.OK
}

// places goes over the numbers of a word's bits, rising.
func places() iter.Seq[int] {
	return func(yield func(int) bool) {
		for i := range wordBits {
			if !yield(i) {
				return
			}
		}
	}
}

// Bits goes over the bits that are set, rising.
func Bits(w uint64) iter.Seq[int] {
	return func(yield func(int) bool) {
	each:
		for i := range places() {
			switch left := w >> i; {
			case left == 0:
				break each
			case left&1 == 0:
				continue each
			case !yield(i):
				break each
			}
		}
	}
}

// Ones tells how many bits are set.
func Ones(w uint64) int {
	n := 0
	for range Bits(w) {
		n++
	}
	return n
}
