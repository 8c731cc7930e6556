package words_test

import (
	"bytes"
	"math"
	"slices"
	"testing"

	"hedgerow/api"
	"hedgerow/words"
)

// P1.1
func TestBytesAndWords(t *testing.T) {
	if b := words.Bytes(258, 1<<63); !bytes.Equal(b, []byte{2, 1, 0, 0, 0, 0, 0, 0, 0, 0, 0, 0, 0, 0, 0, 128}) {
		t.Error(b)
	}
	if b := words.Bytes(); len(b) != 0 {
		t.Error(b)
	}
	for n := range 33 {
		l, e := words.Words(make([]byte, n))
		if n%8 != 0 && (e != api.ErrArg || len(l) > 0) || n%8 == 0 && (e != api.OK || len(l) != n/8) {
			t.Error(n, l, e)
		}
	}
	if l, e := words.Words([]byte{1, 2, 3, 4, 5, 6, 7, 8}); e != api.OK || !slices.Equal(l, []uint64{0x0807060504030201}) {
		t.Error(l, e)
	}
}

// P1.2
func TestLayAndTake(t *testing.T) {
	l := words.Lay([]byte("abc"))
	if !slices.Equal(l, []uint64{6513249}) {
		t.Error(l)
	}
	if b, e := words.Take(l, 3); string(b) != "abc" || e != api.OK {
		t.Error(b, e)
	}
	if b, e := words.Take(nil, 0); len(b) != 0 || e != api.OK {
		t.Error(b, e)
	}
	if b, e := words.Take(l, 8); len(b) != 8 || e != api.OK {
		t.Error(b, e)
	}
	for _, n := range []int{-1, 0, 2, 9, math.MaxInt, math.MinInt} {
		if b, e := words.Take(l, n); len(b) > 0 || e != api.ErrArg {
			t.Error(n, b, e)
		}
	}
}

// P1.3
func TestFieldAndWith(t *testing.T) {
	if n, e := words.Field(258, 8, 8); n != 1 || e != api.OK {
		t.Error(n, e)
	}
	if n, e := words.Field(math.MaxUint64, 0, 64); n != math.MaxUint64 || e != api.OK {
		t.Error(n, e)
	}
	if n, e := words.Field(1<<63, 63, 1); n != 1 || e != api.OK {
		t.Error(n, e)
	}
	for _, p := range [][2]int{{-1, 1}, {0, 0}, {0, 65}, {1, 64}, {60, 5}, {64, 1}, {64, 0}, {0, -1}, {math.MaxInt, 1}, {1, math.MaxInt}, {math.MinInt, math.MinInt}} {
		if n, e := words.Field(1, p[0], p[1]); n != 0 || e != api.ErrArg {
			t.Error(p, n, e)
		}
		if n, e := words.With(1, p[0], p[1], math.MaxUint64); n != 0 || e != api.ErrArg {
			t.Error(p, n, e)
		}
	}
	if n, e := words.With(math.MaxUint64, 4, 4, 9); n != math.MaxUint64-0x60 || e != api.OK {
		t.Error(n, e)
	}
	if n, e := words.With(5, 0, 64, math.MaxUint64); n != math.MaxUint64 || e != api.OK {
		t.Error(n, e)
	}
	if n, e := words.With(0, 4, 4, 16); n != 0 || e != api.ErrRange {
		t.Error(n, e)
	}
}

// P1.4
func TestBitsAndOnes(t *testing.T) {
	w := uint64(1 | 1<<5 | 1<<63)
	seq := words.Bits(w)
	for range 2 {
		if l := slices.Collect(seq); !slices.Equal(l, []int{0, 5, 63}) {
			t.Error(l)
		}
	}
	for i := range seq {
		if i == 5 {
			break
		}
		if i > 5 {
			t.Error(i)
		}
	}
	if n := words.Ones(w); n != 3 {
		t.Error(n)
	}
	if words.Ones(0) != 0 || words.Ones(math.MaxUint64) != 64 {
		t.Error("ones")
	}
}

// P1.5
func TestThereAndBack(t *testing.T) {
	l := []uint64{0, 1, 1 << 40, math.MaxUint64}
	if back, e := words.Words(words.Bytes(l...)); e != api.OK || !slices.Equal(back, l) {
		t.Error(back, e)
	}
	for n := range 40 {
		b := bytes.Repeat([]byte{7}, n)
		if back, e := words.Take(words.Lay(b), n); e != api.OK || !bytes.Equal(back, b) {
			t.Error(n, back, e)
		}
	}
	w := uint64(0x123456789abcdef0)
	for at := range 64 {
		for width := 1; width <= 64-at; width++ {
			v := uint64(0x5555555555555555) >> (64 - width)
			x, e := words.With(w, at, width, v)
			if got, f := words.Field(x, at, width); e != api.OK || f != api.OK || got != v {
				t.Fatal(at, width, got)
			}
			mask := ^uint64(0) >> (64 - width) << at
			if x&^mask != w&^mask {
				t.Fatal(at, width, "a field beside is another one")
			}
		}
	}
}
