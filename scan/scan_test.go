package scan_test

import (
	"math"
	"math/rand"
	"slices"
	"testing"

	"hedgerow/api"
	"hedgerow/scan"
	"hedgerow/slots"
)

func row(many int, l ...uint64) []uint64 {
	return append(slices.Clone(l), make([]uint64, 2*many-len(l))...)
}

func loads(way api.ScanWay, left uint64, s []uint64, key uint64) []int {
	var out []int
	for at, v := range scan.Trace(way, left, s, key) {
		out = append(out, at)
		if at == -1 && v != left || at >= 0 && v != s[at] {
			out = append(out, -99)
		}
	}
	return out
}

// P10.1
func TestReader(t *testing.T) {
	for _, n := range []int{-1, 0, 1, 29, math.MaxInt} {
		if r, e := scan.New(api.ScanUp, n, 3); r != nil || e != api.ErrArg {
			t.Error(n, e)
		}
	}
	for _, way := range []api.ScanWay{api.ScanNone, 3, -1} {
		if r, e := scan.New(way, 4, 3); r != nil || e != api.ErrArg {
			t.Error(way, e)
		}
	}
	for _, n := range []int{2, 28} {
		if _, e := scan.New(api.ScanDown, n, 3); e != api.OK {
			t.Error(n, e)
		}
	}
	r, _ := scan.New(api.ScanUp, 4, 3)
	for i, step := range []struct {
		at int
		v  uint64
	}{{0, 1}, {1, 4}, {2, 3}, {1, 4}, {3, 6}, {2, 3}} {
		if at, is := r.Wants(); at != step.at || !is || r.Loads() != i {
			t.Error(i, at, is)
		}
		if p, is, done := r.Found(); p != 0 || is || done {
			t.Error(i)
		}
		c := r.Copy()
		if e := r.Give(step.v); e != api.OK {
			t.Error(e)
		}
		if at, _ := c.Wants(); at != step.at || c.Loads() != i {
			t.Error("a copy does not stand apart")
		}
		c.Give(step.v)
		a, aIs := r.Wants()
		b, bIs := c.Wants()
		if a != b || aIs != bIs {
			t.Error("a copy goes on otherwise")
		}
	}
	if p, is, done := r.Found(); p != 6 || !is || !done || r.Loads() != 6 {
		t.Error(p, is, done)
	}
	if at, is := r.Wants(); at != 0 || is || r.Give(1) != api.ErrNone || r.Loads() != 6 {
		t.Error(at, is)
	}
	for _, none := range []*scan.Reader{nil, {}} {
		at, is := none.Wants()
		p, found, done := none.Found()
		if at != 0 || is || p != 0 || found || done || none.Give(1) != api.ErrNil || none.Loads() != 0 || none.Copy() != nil {
			t.Error("none")
		}
	}
}

// P10.2
func TestLookAndTrace(t *testing.T) {
	s := row(4, 1, 4, 3, 6)
	for _, c := range []struct {
		way  api.ScanWay
		key  uint64
		want []int
		ptr  uint64
		is   bool
	}{
		{api.ScanUp, 3, []int{0, 1, 2, 1, 3, 2}, 6, true}, {api.ScanDown, 3, []int{6, 4, 2, 3, 1, 2}, 6, true}, {api.ScanUp, 1, []int{0, -1, 1, 0}, 4, true}, {api.ScanDown, 1, []int{6, 4, 2, 0, 1, -1, 0}, 4, true},
		{api.ScanUp, 5, []int{0, 1, 2, 3, 4, 5}, 0, false}, {api.ScanDown, 5, []int{6, 4, 2, 0}, 0, false}, {api.ScanUp, 0, []int{0, 1, 2, 3, 4, 3, 5, 4}, 0, false}, {api.ScanDown, 0, []int{6, 7, 4, 5, 2, 0}, 0, false},
		{api.ScanNone, 3, nil, 0, false}, {9, 3, nil, 0, false},
	} {
		if got := loads(c.way, 9, s, c.key); !slices.Equal(got, c.want) {
			t.Error(c.way, c.key, got)
		}
		if p, is := scan.Look(c.way, 9, s, c.key); p != c.ptr || is != c.is {
			t.Error(c.way, c.key, p, is)
		}
	}
	if p, is := scan.Look(api.ScanUp, 9, row(2, 3, 9, 3, 8), 3); p != 8 || !is {
		t.Error("a slot that counts for nothing is found", p)
	}
	if _, is := scan.Look(api.ScanDown, 9, row(2, 3, 9), 3); is {
		t.Error("a slot that counts for nothing is found")
	}
	for _, bad := range [][]uint64{nil, make([]uint64, 2), make([]uint64, 7), make([]uint64, 58)} {
		if p, is := scan.Look(api.ScanUp, 9, bad, 0); p != 0 || is || len(loads(api.ScanUp, 9, bad, 0)) > 0 {
			t.Error(bad)
		}
	}
	if p, is := scan.Look(api.ScanUp, 0, s, 3); p != 0 || is || len(loads(api.ScanDown, 0, s, 3)) > 0 {
		t.Error("no left")
	}
	seq := scan.Trace(api.ScanUp, 9, s, 3)
	s[2] = 70
	for range 2 {
		n := 0
		for range seq {
			n++
			if n == 5 {
				break
			}
		}
		if n != 5 {
			t.Error(n)
		}
	}
}

// P10.3
func TestFewLoads(t *testing.T) {
	r := rand.New(rand.NewSource(10))
	for range 2000 {
		many := 2 + r.Intn(27)
		s := make([]uint64, 2*many)
		for i := range s {
			s[i] = uint64(r.Intn(3))
		}
		for _, way := range []api.ScanWay{api.ScanUp, api.ScanDown} {
			if n := len(loads(way, 1, s, 1)); n > 4*many {
				t.Fatal(n, many)
			}
		}
	}
	s := row(8, 2, 10, 4, 11, 6, 12, 9, 13)
	for key := range uint64(12) {
		want, has := uint64(0), false
		for _, p := range slots.Read(99, s) {
			if p.Key == key {
				want, has = p.Ptr, true
			}
		}
		for _, way := range []api.ScanWay{api.ScanUp, api.ScanDown} {
			if p, is := scan.Look(way, 99, s, key); p != want || is != has {
				t.Error(key, p, is)
			}
		}
	}
}

// P10.4
func TestBesideAWriter(t *testing.T) {
	r := rand.New(rand.NewSource(11))
	for range 20000 {
		many := 2 + r.Intn(5)
		s := make([]uint64, 2*many)
		key := uint64(r.Intn(2))
		n := r.Intn(many)
		for i := range n {
			s[2*i], s[2*i+1] = key, uint64(20+i)
			key += 1 + uint64(r.Intn(2))
		}
		p := api.Pair{Key: uint64(r.Intn(int(key) + 2)), Ptr: 50}
		way := api.ScanUp
		var stores []api.Put
		switch r.Intn(3) {
		case 0:
			stores, _ = slots.Put(9, s, p)
		case 1:
			stores, _ = slots.Take(9, s, p.Key)
			way = api.ScanDown
		case 2:
			stores, _ = slots.Swap(9, s, p)
			way = api.ScanUp + api.ScanWay(r.Intn(2))
		}
		behind := slices.Clone(s)
		for _, x := range stores {
			behind[x.At] = x.Value
		}
		look := uint64(r.Intn(int(key) + 2))
		was, had := scan.Look(api.ScanUp, 9, s, look)
		will, has := scan.Look(api.ScanUp, 9, behind, look)
		now := slices.Clone(s)
		reader, _ := scan.New(way, many, look)
		for at, wants := reader.Wants(); wants; at, wants = reader.Wants() {
			for len(stores) > 0 && r.Intn(3) == 0 {
				now[stores[0].At] = stores[0].Value
				stores = stores[1:]
			}
			if at == -1 {
				reader.Give(9)
			} else {
				reader.Give(now[at])
			}
		}
		ptr, is, _ := reader.Found()
		ok := is && (had && ptr == was || has && ptr == will) || !is && (!had || !has)
		if !ok {
			t.Fatal(s, behind, look, ptr, is)
		}
	}
}
