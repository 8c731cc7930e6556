package deed

import (
	"hedgerow/api"
	"hedgerow/dir"
	"hedgerow/inode"
	"hedgerow/journal"
	"hedgerow/layout"
	"hedgerow/node"
	"hedgerow/record"
	"hedgerow/redo"
	"hedgerow/space"
	"hedgerow/tree"
)

// block tells the words of a block, as they are by now.
func (u *under) block(b int) []uint64 {
	return u.words[b*api.BlockWords : (b+1)*api.BlockWords]
}

// fill stores all words of a block, noughts behind those that are told.
func (u *under) fill(b int, w []uint64) {
	for i := range api.BlockWords {
		p := api.Put{At: i}
		if i < len(w) {
			p.Value = w[i]
		}
		u.store(b*api.BlockWords, p)
	}
}

// emptyLeaf lays an empty leaf into the first spare block, and tells the block.
func (u *under) emptyLeaf() int {
	refuse(api.ErrSpace, len(u.spare) == 0)
	b := u.spare[0]
	u.spare = u.spare[1:]
	w, e := node.Make(api.Node{Left: api.NodeLeaf})
	refuse(e, e != api.OK)
	u.fill(b, w)
	return b
}

// grow stores a new thing, and then its name.
func (u *under) grow(c api.Call) {
	to := u.way(c.Path, false)
	n, e := space.Inode(u.Image)
	refuse(e, e != api.OK)
	t := u.will[n]
	x := api.Inode{Kind: t.Kind, Links: t.Links, Target: t.Target}
	if t.Kind == api.InodeDir {
		x.Root, x.Parent = u.emptyLeaf(), t.Parent
	}
	at := inodeAt(u.Layout, n)
	l, e := inode.Stores(at, u.words[at:at+api.InodeWords], x)
	refuse(e, e != api.OK)
	u.store(0, l...)
	u.come(to.Dir, to.Name, n)
}

// fresh writes the least free record down, and tells it.
func (u *under) fresh(name string, n int) int {
	free, e := space.Record(u.Image)
	refuse(e, e != api.OK)
	at, e := layout.Record(u.Layout, free)
	refuse(e, e != api.OK)
	l, e := record.Stores(at, api.Record{Inode: n, Name: name})
	refuse(e, e != api.OK)
	u.store(0, l...)
	return free
}

// come stores a name that comes.
func (u *under) come(in int, name string, n int) {
	free := u.fresh(name, n)
	l, _, e := dir.Put(u.words, u.Layout, place(u.Layout, in), name, free, u.spare...)
	refuse(e, e != api.OK)
	u.store(0, l...)
}

// relink stores the links that a thing will have; 0, if it will be gone.
func (u *under) relink(n int) {
	at := inodeAt(u.Layout, n)
	p := api.Put{At: at}
	if t, stays := u.will[n]; stays {
		w, e := inode.Linked(u.words[at], t.Links)
		refuse(e, e != api.OK)
		p.Value = w
	}
	u.store(0, p)
}

// link stores a name more of a thing.
func (u *under) link(c api.Call) {
	n := u.way(c.Path, false).Inode
	to := u.way(c.To, false)
	u.come(to.Dir, to.Name, n)
	u.relink(n)
}

// drop makes a record none's.
func (u *under) drop(n int) {
	at, e := layout.Record(u.Layout, n)
	refuse(e, e != api.OK)
	u.store(at, api.Put{})
}

// take stores a name that goes, and what its thing loses.
func (u *under) take(c api.Call) {
	x := u.way(c.Path, false)
	was, l, _, _, e := dir.Take(u.words, u.Layout, place(u.Layout, x.Dir), x.Name, u.spare...)
	refuse(e, e != api.OK)
	u.store(0, l...)
	u.drop(was.Record)
	u.relink(x.Inode)
}

// entry tells a name's entry.
func (u *under) entry(in int, name string) api.Entry {
	x, is, e := dir.Find(u.words, u.Layout, place(u.Layout, in), name)
	refuse(e, e != api.OK)
	refuse(api.ErrNone, !is)
	return x
}

// makeRoom splits the leaf into which a pair comes, if it is full.
func (u *under) makeRoom(at int, p api.Pair) {
	b, e := redo.Leaf(u.words, at, p.Key)
	refuse(e, e != api.OK)
	full := func() bool {
		n, _ := node.Of(u.block(b))
		return len(n.Pairs) >= api.Fan
	}
	if !full() {
		return
	}
	l, _, e := tree.Put(u.words, at, p, u.spare...)
	refuse(e, e != api.OK)
split:
	for _, s := range numbered(l) {
		u.store(0, s)
		if !full() && tree.Check(u.words, at) == api.OK {
			break split
		}
	}
}

// again writes a redo down, does it, and strikes it.
func (u *under) again(r api.Redo) {
	l, e := journal.Stores(u.Layout, u.client, r)
	refuse(e, e != api.OK)
	u.store(0, l...)
	l, e = redo.Again(u.words, u.Layout, r)
	refuse(e, e != api.OK)
	u.store(0, l...)
	l, e = journal.Strike(u.Layout, u.client)
	refuse(e, e != api.OK)
	u.store(0, l...)
}

// rename stores a name that moves.
func (u *under) rename(c api.Call) {
	from, to := u.way(c.Path, false), u.way(c.To, false)
	isNew := to.Errno != api.OK
	old := u.entry(from.Dir, from.Name)
	r := api.Redo{Kind: api.RedoName, From: from.Dir, FromKey: old.Key, To: to.Dir, Inode: from.Inode, Dir: from.Kind == api.InodeDir}
	r.Record = u.fresh(to.Name, from.Inode)
	var gone api.Entry
	if isNew {
		at := place(u.Layout, to.Dir)
		key, e := dir.Room(u.words, u.Layout, at, to.Name)
		refuse(e, e != api.OK)
		r.ToKey = key
		u.makeRoom(at, api.Pair{Key: key, Ptr: uint64(r.Record)})
	} else {
		gone = u.entry(to.Dir, to.Name)
		r.ToKey = gone.Key
	}
	u.again(r)
	u.drop(old.Record)
	if !isNew {
		u.drop(gone.Record)
		u.relink(to.Inode)
	}
}
