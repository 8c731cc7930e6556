package journal_test

import (
	"math"
	"slices"
	"testing"

	"hedgerow/api"
	"hedgerow/inode"
	"hedgerow/journal"
	"hedgerow/layout"
	"hedgerow/sum"
)

func lay(t *testing.T) api.Layout {
	t.Helper()
	l, e := layout.Of(api.Form{Blocks: 32, Inodes: 8, Records: 16, Bits: 8}, [2]uint64{1, 2})
	if e != api.OK {
		t.Fatal(e)
	}
	return l
}

func file() [api.InodeWords]uint64 {
	w, _ := inode.Words(api.Inode{Kind: api.InodeFile, Links: 1, Size: 600, Map: []api.Extent{{File: 0, Dev: 20, Many: 2}}})
	return [api.InodeWords]uint64(w)
}

func move() api.Redo {
	return api.Redo{Kind: api.RedoName, From: 1, FromKey: 2, To: 1, ToKey: 3, Record: 4, Inode: 5}
}

func good() []api.Redo {
	m := move()
	far := api.Redo{Kind: api.RedoName, From: 8, FromKey: math.MaxUint64, To: 1, ToKey: math.MaxUint64, Record: 16, Inode: 8, Dir: true}
	return []api.Redo{m, far, {Kind: api.RedoInode, Inode: 8, Words: file()}, {Kind: api.RedoInode, Inode: 1, Words: file()}}
}

func bad() []api.Redo {
	var out []api.Redo
	for _, change := range []func(r *api.Redo){
		func(r *api.Redo) { *r = api.Redo{} }, func(r *api.Redo) { r.Kind = 3 }, func(r *api.Redo) { r.Kind = -1 }, func(r *api.Redo) { r.Kind = api.RedoInode }, func(r *api.Redo) { r.From = 0 }, func(r *api.Redo) { r.From = 9 }, func(r *api.Redo) { r.To = 9 }, func(r *api.Redo) { r.To = -1 },
		func(r *api.Redo) { r.ToKey = 2 }, func(r *api.Redo) { r.Record = 0 }, func(r *api.Redo) { r.Record = 17 }, func(r *api.Redo) { r.Inode = 0 }, func(r *api.Redo) { r.Inode = 9 }, func(r *api.Redo) { r.Words[3] = 1 },
	} {
		r := move()
		change(&r)
		out = append(out, r)
	}
	for _, change := range []func(r *api.Redo){
		func(r *api.Redo) { r.Inode = 0 }, func(r *api.Redo) { r.Inode = 9 }, func(r *api.Redo) { r.Words[0] = 258 }, func(r *api.Redo) { r.Words = [api.InodeWords]uint64{} }, func(r *api.Redo) { r.Words[1] = 1 << 40 }, func(r *api.Redo) { r.From = 1 }, func(r *api.Redo) { r.To = 1 },
		func(r *api.Redo) { r.FromKey = 1 }, func(r *api.Redo) { r.ToKey = 1 }, func(r *api.Redo) { r.Record = 1 }, func(r *api.Redo) { r.Dir = true },
	} {
		r := api.Redo{Kind: api.RedoInode, Inode: 3, Words: file()}
		change(&r)
		out = append(out, r)
	}
	return out
}

func block(w []uint64, behind uint64) []uint64 {
	out := slices.Clone(w)
	for len(out) < 64 {
		out = append(out, behind)
	}
	return out
}

// P21.1
func TestCheckWordsOf(t *testing.T) {
	l := lay(t)
	for _, r := range good() {
		w, e := journal.Words(l, r)
		if journal.Check(l, r) != api.OK || e != api.OK || w[len(w)-1] != sum.Words(w[:len(w)-1]...) {
			t.Error(r, w, e)
		}
		for _, behind := range []uint64{0, 99} {
			if back, has, e := journal.Of(l, block(w, behind)); back != r || !has || e != api.OK {
				t.Error(r, back, has, e)
			}
		}
	}
	for _, r := range bad() {
		if w, e := journal.Words(l, r); len(w) > 0 || e != api.ErrJournal || journal.Check(l, r) != api.ErrJournal {
			t.Error(r, w, e)
		}
		if s, e := journal.Stores(l, 3, r); len(s) > 0 || e != api.ErrJournal {
			t.Error(r, s, e)
		}
	}
	w, _ := journal.Words(l, move())
	if !slices.Equal(w[:8], []uint64{1794, 1, 2, 1, 3, 4, 5, 0}) || len(w) != 9 {
		t.Error(w)
	}
	w, _ = journal.Words(l, good()[2])
	if w[0] != 1|17<<8 || w[1] != 8 || len(w) != 19 {
		t.Error(w)
	}
	for i, c := range []struct {
		w []uint64
		e api.Errno
	}{{make([]uint64, 64), api.OK}, {block([]uint64{0, 5}, 7), api.OK}, {make([]uint64, 63), api.ErrJournal}, {make([]uint64, 65), api.ErrJournal}, {nil, api.ErrJournal}, {block([]uint64{1}, 0), api.ErrJournal}, {block([]uint64{1794 + 256}, 0), api.ErrJournal}} {
		if r, has, e := journal.Of(l, c.w); r != (api.Redo{}) || has || e != c.e {
			t.Error(i, r, has, e)
		}
	}
	none := l
	none.Map++
	if _, _, e := journal.Of(none, nil); e != api.ErrArg || journal.Check(none, api.Redo{}) != api.ErrArg {
		t.Error(e)
	}
	if _, e := journal.Words(none, api.Redo{}); e != api.ErrArg {
		t.Error(e)
	}
	// A sealed body that is no redo's: of another layout, of a Dir that is neither.
	for _, body := range [][]uint64{{1794, 1, 2, 1, 3, 4, 5, 2}, {1794, 1, 2, 1, 3, 17, 5, 0}, {1794, 1, 2, 1, 2, 4, 5, 0}, {1794, 1 << 63, 2, 1, 3, 4, 5, 0}, {1538, 1, 2, 1, 3, 4, 5}} {
		if _, has, e := journal.Of(l, block(sum.Seal(body...), 0)); has || e != api.ErrJournal {
			t.Error(body, has, e)
		}
	}
}

// P21.2, P21.3
func TestStoresAndStrike(t *testing.T) {
	l := lay(t)
	for client := range 8 {
		for _, r := range good() {
			s, e := journal.Stores(l, client, r)
			words := make([]uint64, 32*64)
			for i, p := range s {
				if got, has, e := journal.Of(l, words[64+64*client:128+64*client]); has || e != api.OK || got != (api.Redo{}) {
					t.Error(i, "a redo ahead of its head")
				}
				if i+1 < len(s) && p.At != 64+64*client+1+i {
					t.Error(i, p)
				}
				words[p.At] = p.Value
			}
			w := words[64+64*client : 128+64*client]
			if got, has, f := journal.Of(l, w); got != r || !has || e != api.OK || f != api.OK {
				t.Error(got, has, e, f)
			}
			for i := range s {
				for _, bit := range []int{0, 1, 7, 13, 40, 63} {
					w[i] ^= 1 << bit
					if got, has, e := journal.Of(l, w); has || e != api.ErrJournal || got != (api.Redo{}) {
						t.Error(i, bit, got, e)
					}
					w[i] ^= 1 << bit
				}
			}
			strike, e := journal.Strike(l, client)
			if e != api.OK || !slices.Equal(strike, []api.Put{{At: 64 + 64*client}}) {
				t.Error(strike, e)
			}
			w[0] = 0
			if _, has, e := journal.Of(l, w); has || e != api.OK {
				t.Error("a struck journal", e)
			}
		}
	}
	for _, client := range []int{-1, 8, math.MaxInt} {
		if s, e := journal.Strike(l, client); len(s) > 0 || e != api.ErrArg {
			t.Error(client, s, e)
		}
		if s, e := journal.Stores(l, client, api.Redo{}); len(s) > 0 || e != api.ErrArg {
			t.Error(client, s, e)
		}
	}
	if _, e := journal.Strike(api.Layout{}, 0); e != api.ErrArg {
		t.Error(e)
	}
}
