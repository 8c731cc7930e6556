package sum_test

import (
	"hash/crc64"
	"math"
	"slices"
	"testing"

	"hedgerow/api"
	"hedgerow/sum"
	"hedgerow/words"
)

// P3.1
func TestSums(t *testing.T) {
	if s := sum.Sum([]byte("123456789")); s != 0x995dc9bbdf1939fa {
		t.Errorf("%x", s)
	}
	if sum.Sum(nil) != 0 || sum.Words() != 0 || sum.More(7, nil) != 7 {
		t.Error("nothing")
	}
	table := crc64.MakeTable(crc64.ECMA)
	b := []byte{}
	for i := range 200 {
		b = append(b, byte(i*i+3))
		if sum.Sum(b) != crc64.Checksum(b, table) {
			t.Fatal(i)
		}
	}
	l := []uint64{1, math.MaxUint64, 0, 258}
	if sum.Words(l...) != sum.Sum(words.Bytes(l...)) {
		t.Error("words")
	}
}

// P3.2
func TestSealAndOpen(t *testing.T) {
	l := make([]uint64, 3, 8)
	l[0], l[1], l[2] = 5, 6, 7
	spare := l[:4]
	sealed := sum.Seal(l...)
	if len(sealed) != 4 || sealed[3] != sum.Words(5, 6, 7) || spare[3] != 0 {
		t.Error(sealed, spare)
	}
	sealed[0] = 9
	if l[0] != 5 {
		t.Error("an answer shares what was handed in")
	}
	for _, bad := range [][]uint64{nil, {}, {0, 0}, {1}, {5, 6, 7, 0}} {
		if got, e := sum.Open(bad); len(got) > 0 || e != api.ErrSum {
			t.Error(bad, got, e)
		}
	}
	if got, e := sum.Open([]uint64{0}); len(got) != 0 || e != api.OK {
		t.Error(got, e)
	}
	in := sum.Seal(1, 2)
	got, e := sum.Open(in)
	in[0] = 77
	if e != api.OK || !slices.Equal(got, []uint64{1, 2}) {
		t.Error(got, e)
	}
}

// P3.3
func TestMoreAndTwisted(t *testing.T) {
	b := []byte("a small file system on a persistent memory")
	for n := range b {
		if sum.More(sum.Sum(b[:n]), b[n:]) != sum.Sum(b) {
			t.Error(n)
		}
	}
	for n := range 9 {
		sealed := sum.Seal(make([]uint64, n)...)
		if back, e := sum.Open(sealed); e != api.OK || len(back) != n {
			t.Error(n, back, e)
		}
		for i := range sealed {
			for bit := range 64 {
				sealed[i] ^= 1 << bit
				if _, e := sum.Open(sealed); e != api.ErrSum {
					t.Error(n, i, bit)
				}
				sealed[i] ^= 1 << bit
			}
		}
	}
}
