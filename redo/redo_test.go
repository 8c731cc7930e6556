package redo_test

import (
	"math/rand"
	"slices"
	"strconv"
	"testing"

	"hedgerow/api"
	"hedgerow/image"
	"hedgerow/inode"
	"hedgerow/layout"
	"hedgerow/model"
	"hedgerow/node"
	"hedgerow/record"
	"hedgerow/redo"
	"hedgerow/tree"
)

// device is words of a state: a directory 2 at /d, with so many files in the root and in it.
func device(t *testing.T, many int) ([]uint64, api.Layout) {
	t.Helper()
	l, e := layout.Of(api.Form{Blocks: 120, Inodes: 128, Records: 128, Bits: 20}, [2]uint64{1, 2})
	if e != api.OK {
		t.Fatal(e)
	}
	m, _ := model.New(l)
	m.Do(api.Call{Kind: api.CallMkdir, Path: "/d"})
	m.Do(api.Call{Kind: api.CallMkdir, Path: "/d/sub"})
	for i := range many {
		m.Do(api.Call{Kind: api.CallCreate, Path: "/f" + strconv.Itoa(i)})
		m.Do(api.Call{Kind: api.CallCreate, Path: "/d/g" + strconv.Itoa(i)})
	}
	w, e := image.Lay(l, m.State()...)
	if e != api.OK {
		t.Fatal(e)
	}
	return w, l
}

func apply(words []uint64, l []api.Put) []uint64 {
	out := slices.Clip(slices.Clone(words))
	for _, p := range l {
		out[p.At] = p.Value
	}
	return out
}

func place(l api.Layout, n int) int {
	at, _ := layout.Inode(l, n)
	return at + 2
}

func pairs(t *testing.T, words []uint64, l api.Layout, n int) []api.Pair {
	t.Helper()
	p, e := tree.All(words, place(l, n))
	if e != api.OK {
		t.Fatal(n, e)
	}
	return p
}

// P22.1
func TestLeaf(t *testing.T) {
	words, l := device(t, 40)
	for _, n := range []int{1, 2} {
		for _, p := range pairs(t, words, l, n) {
			b, e := redo.Leaf(words, place(l, n), p.Key)
			if e != api.OK {
				t.Fatal(e)
			}
			found := false
			for j := range 28 {
				found = found || words[64*b+8+2*j] == p.Key && words[64*b+9+2*j] == p.Ptr
			}
			if !found {
				t.Error(p, b)
			}
		}
	}
	// The place may be the first word; a root is never the block 0.
	leaf, _ := node.Make(api.Node{Left: api.NodeLeaf})
	few := append([]uint64{1}, make([]uint64, 63)...)
	if b, e := redo.Leaf(append(few, leaf...), 0, 7); b != 1 || e != api.OK {
		t.Error(b, e)
	}
	if b, e := redo.Leaf(append(slices.Clone(leaf), make([]uint64, 64)...), 64, 7); b != 0 || e != api.ErrRedo {
		t.Error(b, e)
	}
	at := place(l, 1)
	root := int(words[at])
	if words[64*root]&0xff != 1 {
		t.Fatal("the root is a leaf")
	}
	for i, c := range []struct {
		words []uint64
		at    int
		e     api.Errno
	}{
		{nil, 0, api.ErrArg}, {words[:63], 0, api.ErrArg}, {words, -1, api.ErrArg}, {words, len(words), api.ErrArg}, {words, 64, api.ErrRedo}, {apply(words, []api.Put{{At: at, Value: 120}}), at, api.ErrRedo}, {apply(words, []api.Put{{At: at, Value: 1 << 63}}), at, api.ErrRedo}, {apply(words, []api.Put{{At: at, Value: 3}}), at, api.ErrRedo},
		{apply(words, []api.Put{{At: 64*root + 3, Value: uint64(root)}}), at, api.ErrRedo}, {apply(words, []api.Put{{At: 64 * root, Value: words[64*root] + 1}}), at, api.ErrRedo}, {apply(words, []api.Put{{At: 64*root + 9, Value: words[64*root+3]}}), at, api.ErrRedo},
	} {
		if b, e := redo.Leaf(c.words, c.at, 0); b != 0 || e != c.e {
			t.Error(i, b, e)
		}
	}
}

// P22.2
func TestAgainInode(t *testing.T) {
	words, l := device(t, 2)
	w, _ := inode.Words(api.Inode{Kind: api.InodeFile, Links: 1, Size: 600, Map: []api.Extent{{File: 1, Dev: 100, Many: 1}}})
	r := api.Redo{Kind: api.RedoInode, Inode: 5, Words: [api.InodeWords]uint64(w)}
	at := place(l, 5) - 2
	s, e := redo.Again(words, l, r)
	if e != api.OK || !slices.Equal(s, []api.Put{{At: at + 1, Value: 600}, {At: at + 2, Value: 1 | 100<<16 | 1<<40}}) {
		t.Error(s, e)
	}
	if s, e := redo.Again(apply(words, s), l, r); len(s) > 0 || e != api.OK {
		t.Error(s, e)
	}
	seq := redo.Each(words, l, r)
	for range 2 {
		n := 0
		for i, p := range seq {
			if i != n || p != s[i] {
				t.Error(i, p)
			}
			n++
		}
		if n != 2 {
			t.Error(n)
		}
	}
	for i := range seq {
		if i > 0 {
			t.Error(i)
		}
		break
	}
	for i, c := range []struct {
		words []uint64
		l     api.Layout
		r     api.Redo
		e     api.Errno
	}{{words[:64], l, r, api.ErrArg}, {nil, l, r, api.ErrArg}, {nil, l, api.Redo{}, api.ErrJournal}, {words, api.Layout{}, api.Redo{}, api.ErrArg}, {words, l, api.Redo{Kind: api.RedoName, From: 1, To: 5, Record: 1, Inode: 3}, api.ErrRedo}, {words, l, api.Redo{Kind: api.RedoName, From: 100, To: 1, Record: 1, Inode: 3}, api.ErrRedo}} {
		if s, e := redo.Again(c.words, c.l, c.r); len(s) > 0 || e != c.e {
			t.Error(i, s, e)
		}
		for range redo.Each(c.words, c.l, c.r) {
			t.Error(i)
		}
	}
}

// P22.2, P22.3
func TestAgainName(t *testing.T) {
	r := rand.New(rand.NewSource(22))
	for _, many := range []int{3, 12, 40} {
		words, l := device(t, many)
		for range 40 {
			from, to := 1+r.Intn(2), 1+r.Intn(2)
			old := pairs(t, words, l, from)[r.Intn(many)]
			key, _ := record.Key(l, "n"+strconv.Itoa(r.Intn(1000)), 0)
			if has := pairs(t, words, l, to); r.Intn(2) == 0 {
				key = has[r.Intn(len(has))].Key
			}
			x := api.Redo{Kind: api.RedoName, From: from, FromKey: old.Key, To: to, ToKey: key, Record: 120, Inode: 3, Dir: r.Intn(2) == 0}
			if from == to && old.Key == key {
				continue
			}
			s, e := redo.Again(words, l, x)
			if e != api.OK {
				t.Fatal(e)
			}
			behind := apply(words, s)
			checkMove(t, words, behind, l, x)
			if more, e := redo.Again(behind, l, x); len(more) > 0 || e != api.OK {
				t.Fatal(more, e)
			}
			for n := range s {
				now := apply(words, s[:n])
				more, e := redo.Again(now, l, x)
				if e != api.OK {
					t.Fatal(n, e)
				}
				now = apply(now, more)
				for _, d := range []int{1, 2} {
					if !slices.Equal(pairs(t, now, l, d), pairs(t, behind, l, d)) || tree.Check(now, place(l, d)) != api.OK {
						t.Fatal(n, d)
					}
				}
				if now[place(l, 3)+1] != behind[place(l, 3)+1] {
					t.Fatal("parent")
				}
			}
		}
	}
}

func checkMove(t *testing.T, words, behind []uint64, l api.Layout, x api.Redo) {
	t.Helper()
	want := map[int]map[uint64]uint64{1: {}, 2: {}}
	for _, d := range []int{1, 2} {
		for _, p := range pairs(t, words, l, d) {
			want[d][p.Key] = p.Ptr
		}
	}
	want[x.To][x.ToKey] = uint64(x.Record)
	delete(want[x.From], x.FromKey)
	for _, d := range []int{1, 2} {
		got := pairs(t, behind, l, d)
		for _, p := range got {
			if want[d][p.Key] != p.Ptr {
				t.Fatal(d, p)
			}
		}
		if len(got) != len(want[d]) {
			t.Fatal(d, len(got), len(want[d]))
		}
	}
	parent := uint64(2)
	if x.Dir {
		parent = uint64(x.To)
	}
	if behind[place(l, 3)+1] != parent {
		t.Fatal("parent")
	}
}
