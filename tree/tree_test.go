package tree_test

import (
	"maps"
	"math"
	"math/rand"
	"slices"
	"testing"

	"hedgerow/api"
	"hedgerow/node"
	"hedgerow/tree"
)

func pair(k, p uint64) api.Pair { return api.Pair{Key: k, Ptr: p} }

func put(at int, v uint64) api.Put { return api.Put{At: at, Value: v} }

func apply(words []uint64, l []api.Put) []uint64 {
	out := slices.Clone(words)
	for _, p := range l {
		out[p.At] = p.Value
	}
	return out
}

// device is words of so many blocks, in which some nodes lie; word 0 is the place.
func device(t *testing.T, blocks, root int, nodes map[int]api.Node) []uint64 {
	t.Helper()
	words := make([]uint64, 64*blocks)
	words[0] = uint64(root)
	for b, n := range nodes {
		w, e := node.Make(n)
		if e != api.OK {
			t.Fatal(b, n, e)
		}
		copy(words[64*b:], w)
	}
	return words
}

func leaf(low uint64, sibling int, l ...api.Pair) api.Node {
	return api.Node{Low: low, Sibling: sibling, Left: api.NodeLeaf, Pairs: l}
}

func inner(level int, low uint64, sibling int, left uint64, l ...api.Pair) api.Node {
	return api.Node{Level: level, Low: low, Sibling: sibling, Left: left, Pairs: l}
}

func run(n int) []api.Pair {
	var l []api.Pair
	for i := range n {
		l = append(l, pair(uint64(10*i+10), uint64(i+1)))
	}
	return l
}

func numbers(from, to int) []int {
	var l []int
	for b := from; b < to; b++ {
		l = append(l, b)
	}
	return l
}

// built is words of so many blocks with a tree that is built of pairs.
func built(t *testing.T, blocks int, l []api.Pair) []uint64 {
	t.Helper()
	root, stores, _, e := tree.Build(l, numbers(1, blocks)...)
	if e != api.OK {
		t.Fatal(e)
	}
	words := apply(make([]uint64, 64*blocks), stores)
	words[0] = uint64(root)
	return words
}

// P12.1
func TestReading(t *testing.T) {
	words := device(t, 4, 3, map[int]api.Node{1: leaf(0, 2, pair(1, 1), pair(5, 2)), 2: leaf(9, 0, pair(9, 3)), 3: inner(1, 0, 0, 1, pair(9, 2))})
	if e := tree.Check(words, 0); e != api.OK {
		t.Fatal(e)
	}
	for key, want := range map[uint64]uint64{1: 1, 5: 2, 9: 3, 0: 0, 7: 0, 10: 0, math.MaxUint64: 0} {
		if p, is, e := tree.Find(words, 0, key); p != want || is != (want != 0) || e != api.OK {
			t.Error(key, p, is, e)
		}
	}
	if l, e := tree.All(words, 0); e != api.OK || !slices.Equal(l, []api.Pair{pair(1, 1), pair(5, 2), pair(9, 3)}) {
		t.Error(l, e)
	}
	if l, e := tree.Blocks(words, 0); e != api.OK || !slices.Equal(l, []int{1, 2, 3}) {
		t.Error(l, e)
	}
	seq := tree.From(words, 0, 5)
	for range 2 {
		if l := slices.Collect(seq); !slices.Equal(l, []api.Pair{pair(5, 2), pair(9, 3)}) {
			t.Error(l)
		}
	}
	for p := range seq {
		if p.Key != 5 {
			t.Error(p)
		}
		break
	}
	for i, c := range []struct {
		words []uint64
		at    int
		e     api.Errno
	}{
		{nil, 0, api.ErrArg}, {words[:63], 0, api.ErrArg}, {words, -1, api.ErrArg}, {words, len(words), api.ErrArg}, {make([]uint64, 64*2049), 0, api.ErrArg}, {words, 1, api.ErrTree}, {words, math.MaxInt, api.ErrArg},
		{apply(words, []api.Put{put(0, 9)}), 0, api.ErrTree}, {apply(words, []api.Put{put(0, 0)}), 0, api.ErrTree}, {apply(words, []api.Put{put(0, 1<<63)}), 0, api.ErrTree}, {apply(words, []api.Put{put(0, 2)}), 0, api.ErrTree},
		{apply(words, []api.Put{put(64, 0)}), 0, api.ErrTree}, {apply(words, []api.Put{put(65, 1)}), 0, api.ErrTree}, {apply(words, []api.Put{put(66, 1)}), 0, api.ErrTree}, {apply(words, []api.Put{put(130, 0)}), 0, api.ErrTree},
		{apply(words, []api.Put{put(129, 3)}), 0, api.ErrTree}, {apply(words, []api.Put{put(195, 3)}), 0, api.ErrTree}, {apply(words, []api.Put{put(192, api.NodeMark+2)}), 0, api.ErrTree}, {apply(words, []api.Put{put(136, 5), put(130, 6)}), 0, api.ErrTree},
		{apply(words, []api.Put{put(64+8, 6)}), 0, api.ErrTree}, {device(t, 4, 3, map[int]api.Node{1: inner(1, 0, 0, 2), 2: leaf(0, 0), 3: inner(1, 0, 0, 1)}), 0, api.ErrTree},
	} {
		if e := tree.Check(c.words, c.at); e != c.e {
			t.Error(i, e)
		}
		if l, e := tree.All(c.words, c.at); len(l) > 0 || e != c.e {
			t.Error(i, e)
		}
		if l, e := tree.Blocks(c.words, c.at); len(l) > 0 || e != c.e {
			t.Error(i, e)
		}
		if p, is, e := tree.Find(c.words, c.at, 5); p != 0 || is || e != c.e {
			t.Error(i, e)
		}
		for range tree.From(c.words, c.at, 0) {
			t.Error(i)
		}
	}
}

// P12.1: what is just allowed.
func TestBounds(t *testing.T) {
	words := make([]uint64, 64*2048)
	copy(words, device(t, 3, 1, map[int]api.Node{1: leaf(0, 0, pair(0, 1), pair(math.MaxUint64, 1<<40))}))
	for _, n := range []int{3 * 64, 2048 * 64} {
		if l, e := tree.All(words[:n], 0); e != api.OK || tree.Check(words[:n], 0) != api.OK || !slices.Equal(l, []api.Pair{pair(0, 1), pair(math.MaxUint64, 1<<40)}) {
			t.Error(n, l, e)
		}
	}
	if p, is, e := tree.Find(words, 0, 0); p != 1 || !is || e != api.OK {
		t.Error(p, is, e)
	}
	if _, _, used, e := tree.Build([]api.Pair{pair(0, 1<<40)}, 1, 2047); used != 1 || e != api.OK {
		t.Error(used, e)
	}
}

// P12.1: trees that read, and are not settled.
func TestHalfDone(t *testing.T) {
	for i, c := range []struct {
		root  int
		nodes map[int]api.Node
		find  api.Errno
		all   []api.Pair
	}{
		{1, map[int]api.Node{1: leaf(0, 2, pair(1, 1), pair(9, 3)), 2: leaf(9, 0, pair(9, 3))}, api.OK, []api.Pair{pair(1, 1), pair(9, 3)}},
		{3, map[int]api.Node{1: leaf(0, 2, pair(1, 1)), 2: leaf(9, 0, pair(9, 3)), 3: inner(1, 0, 0, 1)}, api.OK, []api.Pair{pair(1, 1), pair(9, 3)}},
		{3, map[int]api.Node{1: leaf(0, 2, pair(1, 1)), 2: leaf(9, 0, pair(9, 3)), 3: inner(1, 0, 0, 1, pair(8, 2))}, api.OK, []api.Pair{pair(1, 1), pair(9, 3)}},
		{3, map[int]api.Node{1: leaf(0, 2, pair(1, 1), pair(9, 2)), 2: leaf(9, 0, pair(9, 3)), 3: inner(1, 0, 0, 1, pair(9, 2))}, api.OK, []api.Pair{pair(1, 1), pair(9, 3)}},
		{3, map[int]api.Node{1: leaf(0, 2, pair(9, 2)), 2: leaf(9, 0, pair(9, 3)), 3: inner(1, 0, 0, 1, pair(9, 2))}, api.OK, []api.Pair{pair(9, 3)}},
		{3, map[int]api.Node{1: leaf(0, 2, pair(1, 1)), 2: leaf(9, 0, pair(9, 3)), 3: inner(1, 0, 0, 1, pair(9, 40))}, api.ErrTree, []api.Pair{pair(1, 1), pair(9, 3)}},
	} {
		words := device(t, 4, c.root, c.nodes)
		if e := tree.Check(words, 0); e != api.ErrTree {
			t.Error(i, e)
		}
		if l, e := tree.All(words, 0); e != api.OK || !slices.Equal(l, c.all) {
			t.Error(i, l, e)
		}
		if p, is, e := tree.Find(words, 0, 9); e != c.find || e == api.OK && (p != 3 || !is) || e != api.OK && (p != 0 || is) {
			t.Error(i, p, is, e)
		}
		if l, n, e := tree.Put(words, 0, pair(4, 4)); len(l) > 0 || n != 0 || e != api.ErrTree {
			t.Error(i, e)
		}
		if _, _, _, e := tree.Take(words, 0, 1); e != api.ErrTree {
			t.Error(i, e)
		}
		if _, e := tree.Swap(words, 0, pair(1, 0)); e != api.ErrTree {
			t.Error(i, e)
		}
	}
}

// P12.1: a leaf that is not settled, of a tree that reads.
func TestUnsettledLeaf(t *testing.T) {
	good := device(t, 4, 3, map[int]api.Node{1: leaf(0, 2, pair(1, 1)), 2: leaf(9, 0, pair(9, 3)), 3: inner(1, 0, 0, 1, pair(9, 2))})
	if tree.Check(good, 0) != api.OK {
		t.Fatal("the test's own words")
	}
	now := apply(good, []api.Put{put(64+11, 1)})
	if l, e := tree.All(now, 0); e != api.OK || len(l) != 2 || tree.Check(now, 0) != api.ErrTree {
		t.Error(l, e)
	}
}

// P12.2
func TestErrors(t *testing.T) {
	words := device(t, 3, 1, map[int]api.Node{1: leaf(0, 0, pair(7, 3))})
	full := device(t, 3, 1, map[int]api.Node{1: leaf(0, 0, run(27)...)})
	for i, c := range []struct {
		words []uint64
		p     api.Pair
		free  []int
		e     api.Errno
	}{
		{words, pair(8, 4), []int{0}, api.ErrArg}, {words, pair(8, 4), []int{3}, api.ErrArg}, {words, pair(8, 4), []int{2, 2}, api.ErrArg}, {words, pair(8, 4), []int{1}, api.ErrArg}, {words, pair(8, 4), []int{-1}, api.ErrArg},
		{words, pair(7, 0), nil, api.ErrArg}, {words, pair(8, 1<<40+1), nil, api.ErrArg}, {words, pair(8, 3), nil, api.ErrArg}, {words, pair(7, 4), nil, api.ErrTwice}, {words, pair(8, 1<<40), nil, api.OK},
		{full, pair(10, 99), nil, api.ErrTwice}, {full, pair(11, 99), nil, api.ErrSpace}, {full, pair(11, 99), []int{2}, api.ErrSpace}, {words[:64], pair(1, 1), nil, api.ErrTree}, {nil, pair(1, 1), nil, api.ErrArg},
	} {
		l, used, e := tree.Put(c.words, 0, c.p, c.free...)
		if e != c.e || used != 0 || e != api.OK && len(l) > 0 {
			t.Error(i, l, used, e)
		}
	}
	if l, _, old, e := tree.Take(words, 0, 8, 2); len(l) > 0 || len(old) > 0 || e != api.ErrNone {
		t.Error(e)
	}
	if _, _, _, e := tree.Take(words, 0, 7, 1); e != api.ErrArg {
		t.Error(e)
	}
	for p, want := range map[api.Pair]api.Errno{pair(7, 0): api.ErrArg, pair(7, 3): api.ErrArg, pair(8, 4): api.ErrNone, pair(7, 4): api.OK} {
		if _, e := tree.Swap(words, 0, p); e != want {
			t.Error(p, e)
		}
	}
	l, used, e := tree.Put(device(t, 3, 1, map[int]api.Node{1: leaf(0, 0)}), 0, pair(7, 3), 2)
	if e != api.OK || used != 0 || l[0] != put(68, 1) || l[len(l)-1] != put(73, 3) {
		t.Error(l, used, e)
	}
}

// P12.2: a full leaf that is the root.
func TestSplitOfARoot(t *testing.T) {
	words := device(t, 5, 1, map[int]api.Node{1: leaf(0, 0, run(27)...)})
	l, used, e := tree.Put(words, 0, pair(145, 99), 4, 2, 3)
	if e != api.OK || used != 2 {
		t.Fatal(used, e)
	}
	if l[0] != put(256, api.NodeMark) || l[63].At != 319 || l[64] != put(65, 4) || l[65].At != 64+8+2*26+1 || l[64+15] != put(128, api.NodeMark+1) || l[64+15+64] != put(0, 2) || l[len(l)-1] != put(256+8+1+2, 99) {
		t.Error(l[64:])
	}
	now := apply(words, l)
	if b, _ := tree.Blocks(now, 0); !slices.Equal(b, []int{1, 2, 4}) || tree.Check(now, 0) != api.OK {
		t.Error(b)
	}
}

// P12.3
func TestBuild(t *testing.T) {
	root, l, used, e := tree.Build([]api.Pair{pair(1, 5), pair(2, 6)}, 2)
	if root != 2 || len(l) != 64 || used != 1 || e != api.OK {
		t.Error(root, len(l), used, e)
	}
	root, l, used, e = tree.Build(nil, 9, 8)
	if root != 9 || len(l) != 64 || used != 1 || e != api.OK || l[0] != put(576, api.NodeMark) {
		t.Error(root, len(l), used, e)
	}
	for i, c := range []struct {
		l    []api.Pair
		free []int
		e    api.Errno
	}{
		{nil, nil, api.ErrSpace}, {nil, []int{0}, api.ErrArg}, {nil, []int{2048}, api.ErrArg}, {nil, []int{5, 5}, api.ErrArg}, {[]api.Pair{pair(2, 1), pair(2, 2)}, []int{5}, api.ErrArg}, {[]api.Pair{pair(2, 1), pair(1, 2)}, nil, api.ErrArg},
		{[]api.Pair{pair(2, 0)}, []int{5}, api.ErrArg}, {[]api.Pair{pair(2, 1<<40+1)}, []int{5}, api.ErrArg}, {[]api.Pair{pair(2, 1), pair(3, 1)}, []int{5}, api.ErrArg}, {run(19), []int{5, 6}, api.ErrSpace},
	} {
		if root, l, used, e := tree.Build(c.l, c.free...); root != 0 || len(l) > 0 || used != 0 || e != c.e {
			t.Error(i, root, used, e)
		}
	}
	for n, blocks := range map[int]int{0: 1, 18: 1, 19: 3, 18 * 19: 20, 18*19 + 1: 20 + 1 + 3 - 1} {
		root, stores, used, e := tree.Build(run(n), numbers(1, 200)...)
		words := apply(make([]uint64, 64*200), stores)
		words[5] = uint64(root)
		got, f := tree.All(words, 5)
		if e != api.OK || f != api.OK || used != blocks || len(stores) != 64*used || root != used || !slices.Equal(got, run(n)) || tree.Check(words, 5) != api.OK {
			t.Error(n, root, used, e, f)
		}
	}
	words := built(t, 60, run(40))
	first, _ := node.Of(words[64:128])
	second, _ := node.Of(words[128:192])
	third, _ := node.Of(words[192:256])
	top, _ := node.Of(words[256:320])
	if len(first.Pairs) != 18 || first.Low != 0 || first.Sibling != 2 || len(second.Pairs) != 18 || second.Low != 190 || third.Sibling != 0 || len(third.Pairs) != 4 || top.Left != 1 || !slices.Equal(top.Pairs, []api.Pair{pair(190, 2), pair(370, 3)}) {
		t.Error(first, second, third, top)
	}
}

// P12.2: few pairs are left, and a tree is built of them.
func TestTakeBuildsAnew(t *testing.T) {
	words := built(t, 20, run(19))
	left := run(19)
	for i := range 19 {
		l, used, old, e := tree.Take(words, 0, left[0].Key, 10, 11, 12)
		left = left[1:]
		if e != api.OK {
			t.Fatal(i, e)
		}
		words = apply(words, l)
		if len(left) == 12 {
			if used != 1 || !slices.Equal(old, []int{1, 2, 3}) || l[len(l)-1] != put(0, 10) {
				t.Error(used, old, l[len(l)-1])
			}
			break
		} else if used != 0 || len(old) > 0 {
			t.Error(i, used, old)
		}
	}
	if got, _ := tree.All(words, 0); !slices.Equal(got, left) {
		t.Error(got)
	}
	words = built(t, 20, run(19))
	for i := range 19 {
		l, used, old, e := tree.Take(words, 0, uint64(10*i+10))
		if e != api.OK || used != 0 || len(old) > 0 {
			t.Error("without free blocks", used, old, e)
		}
		words = apply(words, l)
		if b, _ := tree.Blocks(words, 0); len(b) != 3 || tree.Check(words, 0) != api.OK {
			t.Error(i, b)
		}
	}
	if l, e := tree.All(words, 0); len(l) != 0 || e != api.OK {
		t.Error(l, e)
	}
}

// P12.4
func TestAnyTime(t *testing.T) {
	r := rand.New(rand.NewSource(12))
	const blocks = 120
	words := built(t, blocks, nil)
	has := map[uint64]uint64{}
	next := uint64(1)
	for step := range 2000 {
		mine, _ := tree.Blocks(words, 0)
		free := slices.DeleteFunc(numbers(1, blocks), func(b int) bool { return slices.Contains(mine, b) })
		key := uint64(r.Intn(1500))
		was := maps.Clone(has)
		var l []api.Put
		var used int
		var old []int
		var e api.Errno
		switch {
		case r.Intn(10) == 0:
			l, e = tree.Swap(words, 0, pair(key, next))
			if _, is := has[key]; is != (e == api.OK) {
				t.Fatal(e)
			} else if is {
				has[key] = next
			}
		case step%1000 < 600:
			l, used, e = tree.Put(words, 0, pair(key, next), free...)
			if _, is := has[key]; is != (e == api.ErrTwice) {
				t.Fatal(e)
			} else if !is {
				has[key] = next
			}
		default:
			if keys := slices.Sorted(maps.Keys(has)); len(keys) > 0 {
				key = keys[r.Intn(len(keys))]
			}
			l, used, old, e = tree.Take(words, 0, key, free...)
			delete(has, key)
		}
		next++
		checkStores(t, words, l, was, has, step%100 == 0)
		words = apply(words, l)
		now, _ := tree.Blocks(words, 0)
		want := append(slices.Clone(mine), free[:used]...)
		want = slices.DeleteFunc(want, func(b int) bool { return slices.Contains(old, b) })
		slices.Sort(want)
		if e != api.ErrTwice && !slices.Equal(now, want) {
			t.Fatal(step, e, now, want)
		}
	}
}

func sorted(m map[uint64]uint64) []api.Pair {
	var l []api.Pair
	for _, k := range slices.Sorted(maps.Keys(m)) {
		l = append(l, pair(k, m[k]))
	}
	return l
}

func checkStores(t *testing.T, words []uint64, l []api.Put, was, will map[uint64]uint64, all bool) {
	t.Helper()
	a, b := sorted(was), sorted(will)
	now := slices.Clone(words)
	done := false
	for i := range len(l) + 1 {
		if i > 0 {
			now[l[i-1].At] = l[i-1].Value
		}
		if !all && i%31 != 0 && i < len(l) {
			continue
		}
		got, e := tree.All(now, 0)
		if e != api.OK || !slices.Equal(got, b) && (done || !slices.Equal(got, a)) {
			t.Fatal(i, e, len(got), len(a), len(b))
		}
		done = slices.Equal(got, b)
		if !all {
			continue
		}
		for _, p := range got[:len(got)/8] {
			if ptr, is, e := tree.Find(now, 0, p.Key); ptr != p.Ptr || !is || e != api.OK {
				t.Fatal(i, p, ptr, is, e)
			}
		}
	}
	if !done || tree.Check(now, 0) != api.OK {
		t.Fatal("behind all the tree is not settled, or not as it will be")
	}
}
