package layout_test

import (
	"math"
	"slices"
	"testing"

	"hedgerow/api"
	"hedgerow/layout"
)

func form(blocks, inodes, records, bits int) api.Form {
	return api.Form{Blocks: blocks, Inodes: inodes, Records: records, Bits: bits}
}

func made(t *testing.T, f api.Form) api.Layout {
	t.Helper()
	l, e := layout.Of(f, [2]uint64{5, math.MaxUint64})
	if e != api.OK {
		t.Fatal(f, e)
	}
	return l
}

// P13.1
func TestOf(t *testing.T) {
	l := made(t, form(32, 8, 16, 8))
	if l.Inodes != 9 || l.Records != 11 || l.Map != 15 || l.Data != 16 || l.Form != form(32, 8, 16, 8) || l.Key != [2]uint64{5, math.MaxUint64} {
		t.Error(l)
	}
	for f, want := range map[api.Form]api.Errno{
		form(2048, 256, 1024, 40): api.OK, form(32, 4, 4, 1): api.OK, form(32, 4, 64, 1): api.OK, form(32, 8, 64, 1): api.OK, form(32, 12, 64, 1): api.ErrArg, form(32, 64, 16, 1): api.ErrArg, form(31, 4, 4, 1): api.ErrArg, form(2049, 4, 4, 1): api.ErrArg,
		form(99, 0, 4, 1): api.ErrArg, form(99, 5, 4, 1): api.ErrArg, form(999, 260, 4, 1): api.ErrArg, form(99, 4, 0, 1): api.ErrArg, form(99, 4, 6, 1): api.ErrArg, form(999, 4, 1028, 1): api.ErrArg, form(99, 4, 4, 0): api.ErrArg, form(99, 4, 4, 41): api.ErrArg,
		form(99, -4, 4, 1): api.ErrArg, form(math.MaxInt, 4, 4, 1): api.ErrArg, form(99, math.MinInt, math.MinInt, 1): api.ErrArg, {}: api.ErrArg,
	} {
		l, e := layout.Of(f, [2]uint64{})
		if e != want || e != api.OK && l != (api.Layout{}) {
			t.Error(f, l, e)
		}
	}
}

// P13.1, P13.3
func TestSuperAndRead(t *testing.T) {
	l := made(t, form(32, 8, 16, 8))
	super, e := layout.Super(l)
	if e != api.OK || len(super) != 64 || !slices.Equal(super[:7], []uint64{api.Super, 32, 8, 16, 8, 5, math.MaxUint64}) || slices.Max(super[8:]) != 0 {
		t.Error(super, e)
	}
	words := append(slices.Clone(super), make([]uint64, 31*64)...)
	if back, e := layout.Read(words); e != api.OK || back != l {
		t.Error(back, e)
	}
	for i := range super {
		for _, v := range []uint64{0, 1, math.MaxUint64, words[i] + 1, words[i] ^ 1<<63} {
			was := words[i]
			if v == was {
				continue
			}
			words[i] = v
			if back, e := layout.Read(words); e != api.ErrSuper || back != (api.Layout{}) {
				t.Error(i, v, back, e)
			}
			words[i] = was
		}
	}
	for _, w := range [][]uint64{nil, super, words[:63], words[:31*64], append(slices.Clone(words), make([]uint64, 64)...)} {
		if _, e := layout.Read(w); e != api.ErrSuper {
			t.Error(len(w), e)
		}
	}
	bad := l
	bad.Data++
	for _, l := range []api.Layout{{}, bad} {
		if w, e := layout.Super(l); len(w) > 0 || e != api.ErrArg {
			t.Error(e)
		}
		for range layout.Each(l) {
			t.Error("a part of no layout")
		}
		for _, f := range []func(api.Layout, int) (int, api.Errno){layout.Journal, layout.Inode, layout.Record} {
			if n, e := f(l, -5); n != 0 || e != api.ErrArg {
				t.Error(n, e)
			}
		}
		if p, e := layout.Part(l, -1); p != (api.Part{}) || e != api.ErrArg {
			t.Error(p, e)
		}
	}
}

// P13.2, P13.3
func TestParts(t *testing.T) {
	l := made(t, form(32, 8, 16, 8))
	for i, c := range []struct {
		f    func(api.Layout, int) (int, api.Errno)
		n    int
		want int
		e    api.Errno
	}{
		{layout.Journal, 0, 64, api.OK}, {layout.Journal, 7, 512, api.OK}, {layout.Journal, 8, 0, api.ErrRange}, {layout.Journal, -1, 0, api.ErrRange}, {layout.Inode, 5, 640, api.OK}, {layout.Inode, 1, 576, api.OK}, {layout.Inode, 8, 688, api.OK}, {layout.Inode, 9, 0, api.ErrRange}, {layout.Inode, 0, 0, api.ErrRange},
		{layout.Record, 16, 944, api.OK}, {layout.Record, 17, 0, api.ErrRange}, {layout.Record, 0, 0, api.ErrRange}, {layout.Record, math.MaxInt, 0, api.ErrRange},
	} {
		if n, e := c.f(l, c.n); n != c.want || e != c.e {
			t.Error(i, n, e)
		}
	}
	if p, e := layout.Part(l, 1000); e != api.OK || p != (api.Part{Kind: api.PartMap}) {
		t.Error(p, e)
	}
	for _, w := range []int{-1, 2048, math.MaxInt} {
		if _, e := layout.Part(l, w); e != api.ErrRange {
			t.Error(w, e)
		}
	}
	type row struct {
		at   int
		part api.Part
	}
	var rows []row
	for at, p := range layout.Each(l) {
		rows = append(rows, row{at, p})
	}
	if len(rows) != 1+8+8+16+1+16 || rows[0] != (row{0, api.Part{Kind: api.PartSuper}}) || rows[8] != (row{512, api.Part{Kind: api.PartJournal, N: 7}}) || rows[9] != (row{576, api.Part{Kind: api.PartInode, N: 1}}) || rows[34] != (row{1024, api.Part{Kind: api.PartData, N: 16}}) || rows[49] != (row{31 * 64, api.Part{Kind: api.PartData, N: 31}}) {
		t.Error(rows)
	}
	i := 0
	for w := range 32 * 64 {
		if i+1 < len(rows) && rows[i+1].at == w {
			i++
		}
		if p, e := layout.Part(l, w); e != api.OK || p != rows[i].part {
			t.Fatal(w, p, e)
		}
	}
	for at := range layout.Each(l) {
		if at > 0 {
			t.Error(at)
		}
		break
	}
}
