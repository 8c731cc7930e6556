package inode_test

import (
	"math"
	"math/rand"
	"slices"
	"strings"
	"testing"

	"hedgerow/api"
	"hedgerow/inode"
)

func good() []api.Inode {
	return []api.Inode{
		{},
		{Kind: api.InodeFile},
		{Kind: api.InodeFile, Links: 65535, Size: 65536, Map: []api.Extent{{File: 0, Dev: 1, Many: 128}}},
		{Kind: api.InodeFile, Links: 1, Size: 513, Map: []api.Extent{{File: 1, Dev: 2047, Many: 1}}},
		{Kind: api.InodeFile, Size: 1 << 16},
		{Kind: api.InodeDir, Links: 1, Root: 2047, Parent: 256},
		{Kind: api.InodeDir, Root: 1, Parent: 1},
		{Kind: api.InodeLink, Links: 2, Target: "a"},
		{Kind: api.InodeLink, Links: 2, Target: strings.Repeat("\xff", 112)},
	}
}

func bad() []api.Inode {
	return []api.Inode{
		{Links: 1}, {Size: 1}, {Map: []api.Extent{{Dev: 1, Many: 1}}}, {Kind: 4}, {Kind: -1}, {Kind: 256},
		{Kind: api.InodeFile, Links: -1}, {Kind: api.InodeFile, Links: 65536}, {Kind: api.InodeFile, Size: -1}, {Kind: api.InodeFile, Size: 65537}, {Kind: api.InodeFile, Size: 512, Map: []api.Extent{{File: 1, Dev: 1, Many: 1}}},
		{Kind: api.InodeFile, Map: []api.Extent{{File: 0, Dev: 1, Many: 1}}}, {Kind: api.InodeFile, Size: 9999, Map: []api.Extent{{File: 0, Dev: 0, Many: 1}}}, {Kind: api.InodeFile, Root: 1}, {Kind: api.InodeFile, Parent: 1}, {Kind: api.InodeFile, Target: "a"},
		{Kind: api.InodeDir}, {Kind: api.InodeDir, Root: 2048, Parent: 1}, {Kind: api.InodeDir, Root: 1, Parent: 257}, {Kind: api.InodeDir, Root: 1}, {Kind: api.InodeDir, Root: 1, Parent: 1, Size: 1}, {Kind: api.InodeDir, Root: math.MinInt, Parent: 1},
		{Kind: api.InodeLink}, {Kind: api.InodeLink, Target: strings.Repeat("x", 113)}, {Kind: api.InodeLink, Target: "a\x00"}, {Kind: api.InodeLink, Target: "a", Size: 1}, {Kind: api.InodeLink, Target: "a", Root: 1},
	}
}

// P14.1, P14.3
func TestCheckWordsOfSame(t *testing.T) {
	for _, n := range good() {
		w, e := inode.Words(n)
		back, f := inode.Of(w)
		if inode.Check(n) != api.OK || e != api.OK || f != api.OK || len(w) != 16 || !inode.Same(back, n) {
			t.Error(n, w, e, back, f)
		}
	}
	for _, n := range bad() {
		if w, e := inode.Words(n); len(w) > 0 || e != api.ErrInode || inode.Check(n) != api.ErrInode {
			t.Error(n, w, e)
		}
	}
	w, _ := inode.Words(api.Inode{Kind: api.InodeDir, Links: 1, Root: 20, Parent: 1})
	if !slices.Equal(w, []uint64{258, 0, 20, 1, 0, 0, 0, 0, 0, 0, 0, 0, 0, 0, 0, 0}) {
		t.Error(w)
	}
	w, _ = inode.Words(api.Inode{Kind: api.InodeLink, Links: 2, Target: "a"})
	if !slices.Equal(w[:4], []uint64{515, 1, 97, 0}) {
		t.Error(w)
	}
	w, _ = inode.Words(api.Inode{Kind: api.InodeFile, Links: 1, Size: 600, Map: []api.Extent{{File: 1, Dev: 5, Many: 1}}})
	if !slices.Equal(w[:4], []uint64{257, 600, 1 | 5<<16 | 1<<40, 0}) {
		t.Error(w)
	}
	for i, l := range [][]uint64{nil, make([]uint64, 15), make([]uint64, 17)} {
		if n, e := inode.Of(l); e != api.ErrInode || !inode.Same(n, api.Inode{}) {
			t.Error(i, e)
		}
	}
	nothing := make([]uint64, 16)
	nothing[1], nothing[15] = 7, 9
	if n, e := inode.Of(nothing); e != api.OK || !inode.Same(n, api.Inode{}) {
		t.Error(n, e)
	}
	if inode.Same(api.Inode{Kind: api.InodeFile, Size: 600}, api.Inode{Kind: api.InodeFile, Size: 600, Map: []api.Extent{{File: 1, Dev: 5, Many: 1}}}) || !inode.Same(api.Inode{Map: []api.Extent{}}, api.Inode{}) {
		t.Error("same")
	}
}

// P14.1: words that are not just an inode's.
func TestOtherWords(t *testing.T) {
	r := rand.New(rand.NewSource(14))
	for _, n := range good()[1:] {
		w, _ := inode.Words(n)
		for i := range w {
			for range 60 {
				x := slices.Clone(w)
				x[i] ^= 1 << r.Intn(64)
				got, e := inode.Of(x)
				back, f := inode.Words(got)
				if e == api.OK && x[0] != 0 && (f != api.OK || !slices.Equal(back, x)) || e != api.OK && (e != api.ErrInode || !inode.Same(got, api.Inode{})) {
					t.Fatal(n, i, e, got)
				}
			}
		}
		w[15]++
		if n.Kind != api.InodeLink {
			if _, e := inode.Of(w); e != api.ErrInode {
				t.Error(n, e)
			}
		}
	}
	for _, w := range [][]uint64{{256}, {258, 1, 20, 1}, {257 | 1<<32}, {1 | 65536<<8}, {515, 1 << 63, 97}, {515, 0}, {257, 1 << 63}, {515, 9, 97}, {515, 1, 97 + 256}} {
		if _, e := inode.Of(append(w, make([]uint64, 16-len(w))...)); e != api.ErrInode {
			t.Error(w, e)
		}
	}
}

// P14.2, P14.3
func TestStoresAndLinked(t *testing.T) {
	for _, n := range good() {
		was := make([]uint64, 16)
		for i := range was {
			was[i] = uint64(i % 3)
		}
		l, e := inode.Stores(100, was, n)
		want, _ := inode.Words(n)
		last := 99
		for _, p := range l {
			if p.At <= last || was[p.At-100] == p.Value {
				t.Error(n, l)
			}
			last = p.At
			was[p.At-100] = p.Value
		}
		if e != api.OK || !slices.Equal(was, want) {
			t.Error(n, l, e)
		}
		if l, e := inode.Stores(5, want, n); len(l) > 0 || e != api.OK {
			t.Error(l, e)
		}
		if l, e := inode.Stores(5, want[:15], n); len(l) > 0 || e != api.ErrInode {
			t.Error(l, e)
		}
		if n.Kind != api.InodeNone {
			w, e := inode.Linked(want[0], 77)
			want[0] = w
			n.Links = 77
			if back, f := inode.Of(want); e != api.OK || f != api.OK || !inode.Same(back, n) {
				t.Error(n, e, f)
			}
		}
	}
	for _, n := range bad() {
		if l, e := inode.Stores(5, make([]uint64, 16), n); len(l) > 0 || e != api.ErrInode {
			t.Error(l, e)
		}
	}
	for i, c := range []struct {
		w     uint64
		links int
		want  uint64
		e     api.Errno
	}{{258, 3, 770, api.OK}, {0xffffff01, 0, 1, api.OK}, {3, 65535, 0xffff03, api.OK}, {256, 3, 0, api.ErrInode}, {260, 3, 0, api.ErrInode}, {258 | 1<<32, 3, 0, api.ErrInode}, {258, -1, 0, api.ErrInode}, {258, 65536, 0, api.ErrInode}, {math.MaxUint64, 1, 0, api.ErrInode}} {
		if w, e := inode.Linked(c.w, c.links); w != c.want || e != c.e {
			t.Error(i, w, e)
		}
	}
}
