package record_test

import (
	"math"
	"math/rand"
	"slices"
	"strings"
	"testing"

	"hedgerow/api"
	"hedgerow/hash"
	"hedgerow/layout"
	"hedgerow/record"
)

func wide(n int) string { return strings.Repeat("x", n) }

func rec(inode int, name string) api.Record { return api.Record{Inode: inode, Name: name} }

func made(t *testing.T, bits int) api.Layout {
	t.Helper()
	l, e := layout.Of(api.Form{Blocks: 32, Inodes: 8, Records: 16, Bits: bits}, [2]uint64{3, 4})
	if e != api.OK {
		t.Fatal(e)
	}
	return l
}

// P15.1, P15.3
func TestWordsOfStores(t *testing.T) {
	for _, r := range []api.Record{rec(5, "ab"), rec(1, "x"), rec(256, wide(120)), rec(7, "\xff/"[:1])} {
		w, e := record.Words(r)
		back, f := record.Of(w)
		if record.Check(r) != api.OK || e != api.OK || f != api.OK || len(w) != 16 || back != r {
			t.Error(r, w, e, back, f)
		}
		l, e := record.Stores(40, r)
		if e != api.OK || len(l) != 16 || l[15].At != 40 {
			t.Error(l, e)
		}
		now := []uint64{0, 9, 9, 9, 9, 9, 9, 9, 9, 9, 9, 9, 9, 9, 9, 9}
		for i, p := range l {
			if i < 15 && p.At != 41+i {
				t.Error(i, p)
			}
			if _, e := record.Of(now); e != api.ErrRecord {
				t.Error("a record ahead of its last store")
			}
			now[p.At-40] = p.Value
		}
		if !slices.Equal(now, w) {
			t.Error(now)
		}
	}
	w, _ := record.Words(rec(5, "ab"))
	if w[0] != 131077 || w[1] != 25185 || w[2] != 0 {
		t.Error(w)
	}
	for _, r := range []api.Record{{}, rec(0, "a"), rec(257, "a"), rec(-1, "a"), rec(1, ""), rec(1, ".."), rec(1, "a/b"), rec(1, wide(121)), rec(1, "\x00")} {
		w, e := record.Words(r)
		l, f := record.Stores(4, r)
		if record.Check(r) != api.ErrRecord || len(w) > 0 || e != api.ErrRecord || len(l) > 0 || f != api.ErrRecord {
			t.Error(r, e, f)
		}
	}
}

// P15.1
func TestOtherWords(t *testing.T) {
	for i, w := range [][]uint64{nil, make([]uint64, 15), make([]uint64, 16), make([]uint64, 17)} {
		if r, e := record.Of(w); r != (api.Record{}) || e != api.ErrRecord {
			t.Error(i, e)
		}
	}
	r := rand.New(rand.NewSource(15))
	for _, x := range []api.Record{rec(5, "ab"), rec(200, "abcdefgh"), rec(256, wide(120))} {
		w, _ := record.Words(x)
		for range 3000 {
			y := slices.Clone(w)
			y[r.Intn(16)] ^= 1 << r.Intn(64)
			got, e := record.Of(y)
			back, f := record.Words(got)
			if e == api.OK && (f != api.OK || !slices.Equal(back, y)) || e != api.OK && (e != api.ErrRecord || got != (api.Record{})) {
				t.Fatal(y, got, e)
			}
		}
	}
	w, _ := record.Words(rec(5, "a"))
	for _, head := range []uint64{5, 5 | 121<<16, 5 | 2<<16, 0 | 1<<16, 257 | 1<<16, 5 | 1<<16 | 1<<24, math.MaxUint64} {
		w[0] = head
		if _, e := record.Of(w); e != api.ErrRecord {
			t.Error(head, e)
		}
	}
}

// P15.2, P15.3
func TestKeys(t *testing.T) {
	l := made(t, 12)
	sum, e := record.Sum(l, "abc")
	want, _ := hash.Part([2]uint64{3, 4}, []byte("abc"), 12)
	if e != api.OK || sum != want || sum >= 4096 {
		t.Error(sum, e)
	}
	for _, nth := range []int{0, 1, 65535} {
		k, e := record.Key(l, "abc", nth)
		s, n := record.Split(k)
		if e != api.OK || k != 65536*sum+uint64(nth) || s != sum || n != nth {
			t.Error(nth, k, e)
		}
	}
	if s, n := record.Split(131075); s != 2 || n != 3 {
		t.Error(s, n)
	}
	if s, n := record.Split(math.MaxUint64); s != 1<<48-1 || n != 65535 {
		t.Error(s, n)
	}
	bad := l
	bad.Map++
	for i, c := range []struct {
		l    api.Layout
		name string
		nth  int
		sum  api.Errno
		key  api.Errno
	}{
		{bad, "a", 0, api.ErrArg, api.ErrArg}, {bad, "", 0, api.ErrArg, api.ErrArg}, {api.Layout{}, "", -1, api.ErrArg, api.ErrArg}, {l, "", 0, api.ErrName, api.ErrName}, {l, "a/", 0, api.ErrName, api.ErrName}, {l, wide(121), 0, api.ErrWide, api.ErrWide},
		{l, "a", -1, api.OK, api.ErrArg}, {l, "a", 65536, api.OK, api.ErrArg}, {l, "", 65536, api.ErrName, api.ErrArg}, {l, wide(121), math.MinInt, api.ErrWide, api.ErrArg},
	} {
		if s, e := record.Sum(c.l, c.name); e != c.sum || e != api.OK && s != 0 {
			t.Error(i, s, e)
		}
		if k, e := record.Key(c.l, c.name, c.nth); e != c.key || k != 0 {
			t.Error(i, k, e)
		}
	}
}
