package deed

import (
	"slices"

	"hedgerow/api"
	"hedgerow/extents"
	"hedgerow/inode"
	"hedgerow/space"
	"hedgerow/words"
)

// fileBlocks is how many blocks a file has at most.
const fileBlocks = api.MaxFile / api.BlockBytes

// places says of each block of a file where it lies; 0: nowhere.
type places [fileBlocks]int

// pieces cuts a list into pieces of so many things, the last one of what is left.
func pieces[T any](l []T, many int) [][]T {
	var out [][]T
	for len(l) > 0 {
		n := min(many, len(l))
		out = append(out, l[:n])
		l = l[n:]
	}
	return out
}

// blocksOf tells the words of each block of a file's bytes, noughts behind the last one.
func blocksOf(b []byte) [][]uint64 {
	out := pieces(words.Lay(b), api.BlockWords)
	if n := len(out) - 1; n >= 0 {
		out[n] = append(slices.Clone(out[n]), make([]uint64, api.BlockWords-len(out[n]))...)
	}
	return out
}

// others tells those of a file's blocks whose words are other ones than what lies there.
func (u *under) others(l []api.Extent, blocks [][]uint64) []int {
	lies := spread(l)
	nothing := make([]uint64, api.BlockWords)
	var out []int
	for i, w := range blocks {
		has := nothing
		if lies[i] != 0 {
			has = u.block(lies[i])
		}
		if !slices.Equal(w, has) {
			out = append(out, i)
		}
	}
	return out
}

// spread tells where the blocks of a map lie.
func spread(l []api.Extent) places {
	var p places
	for block, dev := range extents.Each(l) {
		p[block] = dev
	}
	return p
}

// gather tells the extents of blocks that lie in places, as few as can be.
func gather(p places) []api.Extent {
	var out []api.Extent
	for block, dev := range p {
		if dev == 0 {
			continue
		}
		if n := len(out) - 1; n >= 0 && out[n].File+out[n].Many == block && out[n].Dev+out[n].Many == dev {
			out[n].Many++
			continue
		}
		out = append(out, api.Extent{File: block, Dev: dev, Many: 1})
	}
	return out
}

// dealer picks so many blocks, and tells a closure that deals them out.
func (u *under) dealer(many int) func() int {
	refuse(api.ErrSpace, many > len(u.spare))
	runs, e := space.Pick(u.Image, many)
	refuse(e, e != api.OK)
	return func() int {
		b := runs[0].At
		runs[0].At++
		runs[0].Many--
		if runs[0].Many == 0 {
			runs = runs[1:]
		}
		return b
	}
}

// laidAt tells where a file's blocks lie, if some of them are laid anew.
func (u *under) laidAt(p places, some []int) places {
	deal := u.dealer(len(some))
	for _, i := range some {
		p[i] = deal()
	}
	return p
}

// write stores a file's blocks that are other ones, and then where they lie.
func (u *under) write(c api.Call) {
	n := u.way(c.Path, true).Inode
	at := inodeAt(u.Layout, n)
	x, e := inode.Of(u.words[at : at+api.InodeWords])
	refuse(e, e != api.OK)
	b := u.will[n].Bytes
	blocks := blocksOf(b)
	stays, _, e := extents.Cut(x.Map, len(blocks))
	refuse(e, e != api.OK)
	some := u.others(x.Map, blocks)
	lies := u.laidAt(spread(stays), some)
	if len(gather(lies)) > api.MaxExtents {
		some = nil
		for i := range blocks {
			some = append(some, i)
		}
		lies = u.laidAt(places{}, some)
		refuse(api.ErrSpace, len(gather(lies)) > api.MaxExtents)
	}
	for _, i := range some {
		u.fill(lies[i], blocks[i])
	}
	x.Size, x.Map = len(b), gather(lies)
	w, e := inode.Words(x)
	refuse(e, e != api.OK)
	u.again(api.Redo{Kind: api.RedoInode, Inode: n, Words: [api.InodeWords]uint64(w)})
}
