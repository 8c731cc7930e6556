package hash_test

import (
	"math"
	"testing"

	"hedgerow/api"
	"hedgerow/hash"
)

// published are sums of the bytes 0 to n - 1 under the key of the bytes 0 to 15, as the makers of SipHash-2-4 gave them out, as words.
var published = []uint64{
	0x726fdb47dd0e0e31, 0x74f839c593dc67fd, 0x0d6c8009d9a94f5a, 0x85676696d7fb7e2d,
	0xcf2794e0277187b7, 0x18765564cd99a68d, 0xcbc9466e58fee3ce, 0xab0200f58b01d137,
	0x93f5f5799a932462, 0x9e0082df0ba9e4b0, 0x7a5dbbc594ddb9f3, 0xf4b32f46226bada7,
	0x751e8fbc860ee5fb, 0x14ea5627c0843d90, 0xf723ca908e7af2ee, 0xa129ca6149be45e5,
}

func key() [2]uint64 { return [2]uint64{0x0706050403020100, 0x0f0e0d0c0b0a0908} }

func rising(n int) []byte {
	b := make([]byte, n)
	for i := range b {
		b[i] = byte(i)
	}
	return b
}

// P2.1
func TestSumAndPart(t *testing.T) {
	for n, want := range published {
		if got := hash.Sum(key(), rising(n)); got != want {
			t.Errorf("%d: %x, not %x", n, got, want)
		}
	}
	full := hash.Sum(key(), rising(15))
	for bits := -1; bits < 67; bits++ {
		got, e := hash.Part(key(), rising(15), bits)
		if bits < 1 || bits > 64 {
			if got != 0 || e != api.ErrArg {
				t.Error(bits, got, e)
			}
		} else if e != api.OK || got != full>>(64-bits) {
			t.Error(bits, got, e)
		}
	}
	if _, e := hash.Part(key(), nil, math.MinInt); e != api.ErrArg {
		t.Error(e)
	}
}

// P2.2
func TestState(t *testing.T) {
	s := hash.New(key())
	if s.Len() != 0 || s.Sum() != published[0] {
		t.Error("new")
	}
	for n, want := range published {
		if s.Len() != n || s.Sum() != want || s.Sum() != want {
			t.Error(n, s.Len(), s.Sum())
		}
		if e := s.Write([]byte{byte(n)}); e != api.OK {
			t.Error(e)
		}
	}
	c := s.Copy()
	c.Write([]byte{1, 2, 3})
	if s.Len() != 16 || c.Len() != 19 || s.Sum() == c.Sum() || s.Sum() != hash.Sum(key(), rising(16)) {
		t.Error("a copy does not go on apart")
	}
	for _, none := range []*hash.State{nil, {}} {
		if none.Write([]byte{1}) != api.ErrNil || none.Sum() != 0 || none.Len() != 0 || none.Copy() != nil {
			t.Error("none")
		}
	}
}

// P2.3
func TestPieces(t *testing.T) {
	b := rising(300)
	for n := range 300 {
		want := hash.Sum(key(), b[:n])
		for _, cut := range []int{0, 1, 7, 8, 9, n / 2, n} {
			cut = min(cut, n)
			s := hash.New(key())
			s.Write(b[:cut])
			s.Sum()
			s.Write(nil)
			s.Write(b[cut:n])
			if s.Sum() != want {
				t.Fatal(n, cut)
			}
		}
		for bits := 1; bits < 64; bits++ {
			few, _ := hash.Part(key(), b[:n], bits)
			more, _ := hash.Part(key(), b[:n], bits+1)
			if few != more>>1 {
				t.Fatal(n, bits)
			}
		}
	}
}
