package tree

import (
	"slices"

	"hedgerow/api"
	"hedgerow/node"
)

// maxPtr is the greatest pointer that may be in a leaf.
const maxPtr = 1 << 40

// stored is what is stored into words, and they behind it.
type stored struct {
	words  []uint64
	stores []api.Put
}

// store stores a word.
func (s *stored) store(at int, v uint64) {
	s.words[at] = v
	s.stores = append(s.stores, api.Put{At: at, Value: v})
}

// storeIn stores words of a block.
func (s *stored) storeIn(block int, l []api.Put) {
	for _, p := range l {
		s.store(block*api.BlockWords+p.At, p.Value)
	}
}

// fill stores all words of a block.
func (s *stored) fill(block int, w []uint64) {
	for i, v := range w {
		s.store(block*api.BlockWords+i, v)
	}
}

// under is a change of a tree under way.
type under struct {
	stored
	tree *shape
	at   int
	free []int
	used int
}

// refuseFree gives up on blocks that are not there, are 0, or are named twice.
func refuseFree(blocks int, free []int) {
	named := map[int]int{}
	for _, b := range free {
		refuse(api.ErrArg, b < 1 || b >= blocks || named[b] != 0)
		named[b] = 1
	}
}

// begin reads a settled tree, and begins to change it in words of its own.
func begin(words []uint64, at int, free []int) *under {
	refuseWords(words, at)
	refuseFree(len(words)/api.BlockWords, free)
	t := read(words, at)
	for _, b := range free {
		refuse(api.ErrArg, t.seen[b] != 0)
	}
	refuse(api.ErrTree, !t.settled())
	return &under{stored: stored{words: slices.Clone(words)}, tree: t, at: at, free: free}
}

// block tells the words of a block, as they are by now.
func (u *under) block(b int) []uint64 { return wordsOf(u.words, b) }

// path tells the blocks that lead to a key's leaf, the root's first.
func (u *under) path(key uint64) []int {
	b := u.tree.levels[0][0].block
	out := []int{b}
	for len(out) < len(u.tree.levels) {
		next, e := node.Child(u.block(b), key)
		refuse(api.ErrTree, e != api.OK)
		b = next
		out = append(out, b)
	}
	return out
}

// leaf tells the block of a key's leaf.
func (u *under) leaf(key uint64) int {
	path := u.path(key)
	return path[len(path)-1]
}

// next takes the next free block.
func (u *under) next() int {
	refuse(api.ErrSpace, u.used == len(u.free))
	u.used++
	return u.free[u.used-1]
}

// put puts a pair into a node that has room.
func (u *under) put(block int, p api.Pair) {
	l, e := node.Put(u.block(block), p)
	refuse(e, e != api.OK)
	u.storeIn(block, l)
}

// raise puts a new root above the old one.
func (u *under) raise(p api.Pair) {
	old := u.tree.levels[0][0]
	b := u.next()
	refuse(api.ErrLong, old.Level == api.MaxLevel)
	w, e := node.Make(api.Node{Level: old.Level + 1, Left: uint64(old.block), Pairs: []api.Pair{p}})
	refuse(e, e != api.OK)
	u.fill(b, w)
	u.store(u.at, uint64(b))
}

// enter puts a pair into the last node of a path; where that is full, it is split first.
func (u *under) enter(path []int, p api.Pair) {
	var come func(i int, p api.Pair)
	come = func(i int, p api.Pair) {
		if i < 0 {
			u.raise(p)
			return
		}
		b := path[i]
		if n, _ := node.Of(u.block(b)); len(n.Pairs) == api.Fan {
			up := u.next()
			w, l, e := node.Split(u.block(b), up)
			refuse(e, e != api.OK)
			u.fill(up, w)
			u.storeIn(b, l)
			half, _ := node.Of(w)
			come(i-1, api.Pair{Key: half.Low, Ptr: uint64(up)})
			if p.Key >= half.Low {
				b = up
			}
		}
		u.put(b, p)
	}
	come(len(path)-1, p)
}

// Put tells the stores that put a pair in, and how many free blocks they use.
func Put(words []uint64, at int, p api.Pair, free ...int) ([]api.Put, int, api.Errno) {
	var out []api.Put
	used := 0
	e := guarded(func() {
		u := begin(words, at, free)
		path := u.path(p.Key)
		// A full leaf is asked, too, what else speaks against the pair.
		_, e := node.Put(u.block(path[len(path)-1]), p)
		refuse(e, e != api.OK && e != api.ErrLong)
		u.enter(path, p)
		out, used = u.stores, u.used
	})
	return out, used, e
}

// Take tells the stores that take a key's pair out, how many free blocks they use, and the blocks that are not the tree's any more.
func Take(words []uint64, at int, key uint64, free ...int) ([]api.Put, int, []int, api.Errno) {
	var out []api.Put
	var old []int
	used := 0
	e := guarded(func() {
		u := begin(words, at, free)
		leaf := u.leaf(key)
		l, e := node.Take(u.block(leaf), key)
		refuse(e, e != api.OK)
		u.storeIn(leaf, l)
		old = u.rebuild(key)
		out, used = u.stores, u.used
	})
	return out, used, old, e
}

// rebuild builds a tree of several leaves anew, if a key that goes leaves few pairs; it tells the old blocks.
func (u *under) rebuild(key uint64) []int {
	pairs := slices.DeleteFunc(u.tree.pairs(), func(p api.Pair) bool { return p.Key == key })
	if len(u.tree.levels) == 1 || len(pairs) > api.Few*len(u.tree.leaves()) {
		return nil
	}
	root, l, used, e := Build(pairs, u.free...)
	if e != api.OK {
		return nil
	}
	u.storeIn(0, l)
	u.store(u.at, uint64(root))
	u.used = used
	return u.tree.blocks()
}

// Swap tells the store that gives a key's pair another pointer.
func Swap(words []uint64, at int, p api.Pair) ([]api.Put, api.Errno) {
	var out []api.Put
	e := guarded(func() {
		u := begin(words, at, nil)
		leaf := u.leaf(p.Key)
		l, e := node.Swap(u.block(leaf), p)
		refuse(e, e != api.OK)
		u.storeIn(leaf, l)
		out = u.stores
	})
	return out, e
}

// pieces cuts a list into pieces of so many things, the last one of what is left.
func pieces[T any](l []T, many int) [][]T {
	var out [][]T
	for len(l) > many {
		out = append(out, l[:many])
		l = l[many:]
	}
	return append(out, l)
}

// refusePairs gives up on pairs of which no tree is built.
func refusePairs(l []api.Pair) {
	had := map[uint64]int{}
	for i, p := range l {
		refuse(api.ErrArg, i > 0 && p.Key <= l[i-1].Key)
		refuse(api.ErrArg, p.Ptr < 1 || p.Ptr > maxPtr || had[p.Ptr] != 0)
		had[p.Ptr] = 1
	}
}

// bottom tells the leaves of a tree that is built, without their blocks.
func bottom(l []api.Pair) []placed {
	var out []placed
	for i, piece := range pieces(l, api.Full) {
		n := api.Node{Left: api.NodeLeaf, Pairs: piece}
		if i > 0 {
			n.Low = piece[0].Key
		}
		out = append(out, placed{Node: n})
	}
	return out
}

// above tells the nodes of the level above a level, without their blocks.
func above(row []placed) []placed {
	var out []placed
	for _, piece := range pieces(row, api.Full+1) {
		n := api.Node{Level: piece[0].Level + 1, Low: piece[0].Low, Left: uint64(piece[0].block)}
		for _, child := range piece[1:] {
			n.Pairs = append(n.Pairs, api.Pair{Key: child.Low, Ptr: uint64(child.block)})
		}
		out = append(out, placed{Node: n})
	}
	return out
}

// Build tells the root of a tree that is built of pairs, the stores, and how many free blocks they use.
func Build(p []api.Pair, free ...int) (int, []api.Put, int, api.Errno) {
	var out []api.Put
	root, used := 0, 0
	e := guarded(func() {
		refuseFree(api.MaxBlocks, free)
		refusePairs(p)
		u := &under{free: free}
		row := bottom(p)
		for {
			for i := range row {
				row[i].block = u.next()
			}
			for i, n := range row {
				if i+1 < len(row) {
					n.Sibling = row[i+1].block
				}
				w, e := node.Make(n.Node)
				refuse(api.ErrLong, e != api.OK)
				out = append(out, filling(n.block, w)...)
			}
			if len(row) == 1 {
				break
			}
			row = above(row)
		}
		root, used = row[0].block, u.used
	})
	if e != api.OK {
		return 0, nil, 0, e
	}
	return root, out, used, api.OK
}

// filling tells the stores of all words of a block.
func filling(block int, w []uint64) []api.Put {
	var out []api.Put
	for i, v := range w {
		out = append(out, api.Put{At: block*api.BlockWords + i, Value: v})
	}
	return out
}
