package image

import (
	"hedgerow/api"
	"hedgerow/bitmap"
	"hedgerow/inode"
	"hedgerow/layout"
	"hedgerow/model"
	"hedgerow/record"
	"hedgerow/tree"
	"hedgerow/words"
)

// layer lays a state into words; it has what is free yet.
type layer struct {
	api.Layout
	words   []uint64
	blocks  []int
	records []int
}

// take takes the first free things, so many, or gives up.
func take[T any](free *[]T, many int) []T {
	refuse(api.ErrSpace, many > len(*free))
	out := (*free)[:many]
	*free = (*free)[many:]
	return out
}

// numbers tells the numbers from one up to another one, which is left out.
func numbers(from, to int) []int {
	var out []int
	for n := from; n < to; n++ {
		out = append(out, n)
	}
	return out
}

// store stores into the words.
func (l *layer) store(puts ...api.Put) {
	for _, p := range puts {
		l.words[p.At] = p.Value
	}
}

// layNames lays a directory's records and tree, and tells the root.
func (l *layer) layNames(t api.Thing) int {
	var pairs []api.Pair
	for _, n := range t.Names {
		number := take(&l.records, 1)[0]
		at, e := layout.Record(l.Layout, number)
		refuse(e, e != api.OK)
		stores, e := record.Stores(at, api.Record{Inode: n.Inode, Name: n.Name})
		refuse(e, e != api.OK)
		l.store(stores...)
		pairs = append(pairs, api.Pair{Key: n.Key, Ptr: uint64(number)})
	}
	top, stores, used, e := tree.Build(pairs, l.blocks...)
	refuse(e, e != api.OK)
	l.store(stores...)
	take(&l.blocks, used)
	return top
}

// layBytes lays a file's bytes, and tells where they lie.
func (l *layer) layBytes(t api.Thing) []api.Extent {
	need := (len(t.Bytes) + api.BlockBytes - 1) / api.BlockBytes
	if need == 0 {
		return nil
	}
	first := take(&l.blocks, need)[0]
	copy(l.words[first*api.BlockWords:], words.Lay(t.Bytes))
	return []api.Extent{{File: 0, Dev: first, Many: need}}
}

// layThing lays a thing, and then its inode's words.
func (l *layer) layThing(t api.Thing) {
	x := api.Inode{Kind: t.Kind, Links: t.Links, Target: t.Target}
	switch t.Kind {
	case api.InodeDir:
		x.Root, x.Parent = l.layNames(t), t.Parent
	case api.InodeFile:
		x.Size, x.Map = len(t.Bytes), l.layBytes(t)
	}
	at, e := layout.Inode(l.Layout, t.Inode)
	refuse(e, e != api.OK)
	w, e := inode.Words(x)
	refuse(e, e != api.OK)
	copy(l.words[at:], w)
}

// layMap lays the map: all blocks that are not free are used.
func (l *layer) layMap() {
	m, e := bitmap.New(l.Form.Blocks)
	refuse(e, e != api.OK)
	m.Set(0, l.Form.Blocks)
	for _, b := range l.blocks {
		m.Free(b, 1)
	}
	copy(l.words[l.Map*api.BlockWords:], m.Words())
}

// Lay tells the words into which a state is laid.
func Lay(l api.Layout, things ...api.Thing) ([]uint64, api.Errno) {
	var out []uint64
	e := guarded(func() {
		m, e := model.Of(l, things...)
		refuse(e, e != api.OK)
		super, e := layout.Super(l)
		refuse(e, e != api.OK)
		under := &layer{l, make([]uint64, l.Form.Blocks*api.BlockWords), numbers(l.Data, l.Form.Blocks), numbers(1, l.Form.Records+1)}
		copy(under.words, super)
		for _, t := range m.State() {
			under.layThing(t)
		}
		under.layMap()
		out = under.words
	})
	return out, e
}
