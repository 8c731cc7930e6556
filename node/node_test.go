package node_test

import (
	"math"
	"math/rand"
	"slices"
	"testing"

	"hedgerow/api"
	"hedgerow/node"
)

func pair(k, p uint64) api.Pair { return api.Pair{Key: k, Ptr: p} }

func put(at int, v uint64) api.Put { return api.Put{At: at, Value: v} }

func leaf(low uint64, l ...api.Pair) api.Node {
	return api.Node{Low: low, Left: api.NodeLeaf, Pairs: l}
}

func inner(level int, low, left uint64, l ...api.Pair) api.Node {
	return api.Node{Level: level, Low: low, Left: left, Pairs: l}
}

func words(t *testing.T, n api.Node) []uint64 {
	t.Helper()
	w, e := node.Make(n)
	if e != api.OK {
		t.Fatal(n, e)
	}
	return w
}

func apply(w []uint64, l []api.Put) []uint64 {
	out := slices.Clone(w)
	for _, p := range l {
		out[p.At] = p.Value
	}
	return out
}

func many(n int) []api.Pair {
	var l []api.Pair
	for i := range n {
		l = append(l, pair(uint64(10+2*i), uint64(100+i)))
	}
	return l
}

func same(a, b api.Node) bool {
	return a.Level == b.Level && a.Sibling == b.Sibling && a.Low == b.Low && a.Left == b.Left && a.Way == b.Way && slices.Equal(a.Pairs, b.Pairs)
}

// P11.1, P11.4
func TestMakeOfCheck(t *testing.T) {
	w := words(t, leaf(5, pair(5, 1), pair(9, 2)))
	if w[0] != api.NodeMark || w[2] != 5 || w[3] != api.NodeLeaf || !slices.Equal(w[8:14], []uint64{5, 1, 9, 2, 0, 0}) || len(w) != 64 {
		t.Error(w)
	}
	for _, n := range []api.Node{leaf(0), leaf(0, many(27)...), leaf(0, pair(0, 1<<40), pair(math.MaxUint64, 1)), inner(12, 3, 2047, pair(4, 1)), inner(1, 0, 1),
		{Level: 3, Sibling: 2047, Low: 1, Left: 9, Way: api.ScanDown, Pairs: many(27)}} {
		w := words(t, n)
		back, e := node.Of(w)
		if e != api.OK || !same(back, n) || node.Check(w) != api.OK {
			t.Error(n, back, e)
		}
	}
	for i, n := range []api.Node{leaf(0, many(28)...), leaf(6, pair(5, 1)), leaf(0, pair(1, 1<<40+1)), leaf(0, pair(1, 0)), leaf(0, pair(2, 1), pair(1, 2)), leaf(0, pair(1, 1), pair(2, 1)), {Left: 5}, {},
		inner(13, 0, 1), inner(-1, 0, 1), inner(1, 0, 0), inner(1, 0, 2048), inner(1, 0, api.NodeLeaf), inner(1, 3, 9, pair(3, 1)), inner(1, 3, 9, pair(4, 9)), inner(1, 3, 9, pair(4, 2048)),
		{Left: api.NodeLeaf, Sibling: -1}, {Left: api.NodeLeaf, Sibling: 2048}, {Left: api.NodeLeaf, Way: 3}, {Left: api.NodeLeaf, Way: -1}, {Level: math.MinInt, Left: api.NodeLeaf}, {Level: 256, Left: api.NodeLeaf}} {
		if w, e := node.Make(n); len(w) > 0 || e != api.ErrNode {
			t.Error(i, n, e)
		}
	}
	good := words(t, inner(2, 0, 5, pair(4, 6)))
	for at, bad := range map[int]uint64{0: api.NodeMark + 13, 1: 2048, 3: 0, 4: 3, 5: 1, 6: 1, 7: 1} {
		w := apply(good, []api.Put{put(at, bad)})
		n, e := node.Of(w)
		if e != api.ErrNode || n.Level != 0 || len(n.Pairs) > 0 || node.Check(w) != api.ErrNode {
			t.Error(at, e)
		}
		for range node.Each(w) {
			t.Error("pairs of no node")
		}
	}
	for _, w := range [][]uint64{nil, good[:63], append(slices.Clone(good), 0)} {
		if node.Check(w) != api.ErrNode {
			t.Error(len(w))
		}
	}
	for _, l := range [][]api.Put{{put(8, 0)}, {put(9, 2048)}, {put(9, 5)}, {put(13, 7)}, {put(10, 4), put(11, 9)}} {
		if e := node.Check(apply(good, l)); e != api.ErrSlots {
			t.Error(l, e)
		}
	}
	if n, e := node.Of(apply(good, []api.Put{put(9, 1<<50)})); e != api.OK || n.Pairs[0].Ptr != 1<<50 {
		t.Error("a node that is not settled is one", e)
	}
	n := 0
	for j, p := range node.Each(good) {
		if j != 0 || p != pair(4, 6) {
			t.Error(j, p)
		}
		n++
	}
	if n != 1 {
		t.Error(n)
	}
}

// P11.2
func TestChanges(t *testing.T) {
	w := words(t, leaf(5, pair(5, 1), pair(9, 2)))
	l, e := node.Put(w, pair(7, 3))
	if e != api.OK || !slices.Equal(l, []api.Put{put(4, 1), put(15, 0), put(13, 2), put(12, 9), put(11, 1), put(10, 7), put(11, 3)}) {
		t.Error(l, e)
	}
	again, e := node.Take(apply(w, l), 7)
	if e != api.OK || again[0] != put(4, 2) {
		t.Error(again, e)
	}
	third, e := node.Put(apply(w, l), pair(8, 4))
	if e != api.OK || third[0] == put(4, 1) {
		t.Error("the way is stored again", third, e)
	}
	swap, e := node.Swap(w, pair(9, 7))
	if e != api.OK || !slices.Equal(swap, []api.Put{put(11, 7)}) {
		t.Error(swap, e)
	}
	unsettled := apply(w, []api.Put{put(11, 1)})
	tidy, e := node.Tidy(unsettled)
	if e != api.OK || !slices.Equal(tidy, []api.Put{put(11, 0)}) {
		t.Error(tidy, e)
	}
	if l, e := node.Tidy(w); len(l) > 0 || e != api.OK {
		t.Error(l, e)
	}
	in := words(t, inner(1, 4, 9, pair(6, 2)))
	full := words(t, leaf(0, many(27)...))
	for i, row := range []struct {
		f    func([]uint64, api.Pair) ([]api.Put, api.Errno)
		w    []uint64
		p    api.Pair
		want api.Errno
	}{
		{node.Put, w[:63], pair(7, 3), api.ErrNode}, {node.Put, unsettled, pair(7, 0), api.ErrSlots}, {node.Put, w, pair(4, 3), api.ErrArg}, {node.Put, w, pair(5, 0), api.ErrArg}, {node.Put, w, pair(7, 1<<40+1), api.ErrArg},
		{node.Put, w, pair(7, 2), api.ErrArg}, {node.Put, w, pair(5, 3), api.ErrTwice}, {node.Put, full, pair(11, 3), api.ErrLong}, {node.Put, in, pair(4, 3), api.ErrArg}, {node.Put, in, pair(5, 9), api.ErrArg}, {node.Put, in, pair(5, 2048), api.ErrArg},
		{node.Swap, w[:63], pair(7, 3), api.ErrNode}, {node.Swap, unsettled, pair(9, 0), api.ErrSlots}, {node.Swap, w, pair(4, 3), api.ErrArg}, {node.Swap, w, pair(9, 1), api.ErrArg}, {node.Swap, w, pair(6, 3), api.ErrNone}, {node.Swap, in, pair(4, 3), api.ErrArg},
	} {
		if l, e := row.f(row.w, row.p); len(l) > 0 || e != row.want {
			t.Error(i, l, e)
		}
	}
	if _, e := node.Take(w, 6); e != api.ErrNone {
		t.Error(e)
	}
	if _, e := node.Take(unsettled, 5); e != api.ErrSlots {
		t.Error(e)
	}
	if _, e := node.Tidy(nil); e != api.ErrNode {
		t.Error(e)
	}
	if l, e := node.Tidy(apply(w, []api.Put{put(8, 4)})); len(l) > 0 || e != api.ErrSlots {
		t.Error("a node that would not be settled is tidied", l, e)
	}
}

// P11.3, P11.5
func TestSplitAndChild(t *testing.T) {
	w := words(t, leaf(5, pair(5, 1), pair(9, 2)))
	next, l, e := node.Split(w, 40)
	n, _ := node.Of(next)
	if e != api.OK || n.Low != 9 || !slices.Equal(l, []api.Put{put(1, 40), put(11, 0)}) || !same(n, leaf(9, pair(9, 2))) {
		t.Error(n, l, e)
	}
	for _, at := range []int{0, -1, 2048} {
		if _, _, e := node.Split(w, at); e != api.ErrArg {
			t.Error(at, e)
		}
	}
	for _, at := range []int{1, 2047} {
		if _, l, e := node.Split(w, at); e != api.OK || l[0] != put(1, uint64(at)) {
			t.Error(at, e)
		}
	}
	if _, _, e := node.Split(words(t, leaf(5, pair(5, 1))), 40); e != api.ErrArg {
		t.Error(e)
	}
	if _, _, e := node.Split(apply(w, []api.Put{put(11, 1)}), 0); e != api.ErrSlots {
		t.Error(e)
	}
	for many := 2; many <= 27; many++ {
		for level := range 2 {
			checkSplit(t, level, many)
		}
	}
	in := words(t, inner(1, 4, 9, pair(6, 2), pair(8, 3)))
	for key, want := range map[uint64]int{0: 9, 5: 9, 6: 2, 7: 2, 8: 3, math.MaxUint64: 3} {
		if b, e := node.Child(in, key); b != want || e != api.OK {
			t.Error(key, b, e)
		}
	}
	for i, c := range []struct {
		w []uint64
		e api.Errno
	}{{w, api.ErrArg}, {nil, api.ErrNode}, {apply(in, []api.Put{put(11, 2)}), api.ErrSlots}} {
		if b, e := node.Child(c.w, 5); b != 0 || e != c.e {
			t.Error(i, b, e)
		}
	}
}

func checkSplit(t *testing.T, level, n int) {
	t.Helper()
	old := leaf(1, many(n)...)
	if level > 0 {
		old = inner(level, 1, 99, many(n)...)
	}
	old.Sibling, old.Way = 77, api.ScanDown
	w := words(t, old)
	next, l, e := node.Split(w, 40)
	up, _ := node.Of(next)
	if e != api.OK || node.Check(next) != api.OK || up.Sibling != 77 || up.Way != api.ScanNone || up.Level != level || up.Low != old.Pairs[n/2].Key {
		t.Fatal(n, up, e)
	}
	rest := up.Pairs
	if level > 0 {
		rest = append([]api.Pair{pair(up.Low, up.Left)}, up.Pairs...)
	}
	if !slices.Equal(rest, old.Pairs[n/2:]) {
		t.Fatal(n, rest)
	}
	for k := range len(l) + 1 {
		now, e := node.Of(apply(w, l[:k]))
		if e != api.OK || !slices.Equal(now.Pairs[:n/2], old.Pairs[:n/2]) || k > 0 && now.Sibling != 40 {
			t.Fatal(n, k, now, e)
		}
	}
	if now, _ := node.Of(apply(w, l)); len(now.Pairs) != n/2 || node.Check(apply(w, l)) != api.OK {
		t.Fatal(n, now)
	}
}

// P11.4
func TestBehindAllIsSettled(t *testing.T) {
	r := rand.New(rand.NewSource(11))
	w := words(t, leaf(0))
	has := map[uint64]uint64{}
	for i := range 3000 {
		p := pair(uint64(r.Intn(40)), uint64(i+1))
		was, is := has[p.Key]
		var l []api.Put
		var e api.Errno
		switch r.Intn(3) {
		case 0:
			l, e = node.Put(w, p)
			if !is && len(has) < 27 {
				has[p.Key] = p.Ptr
			}
		case 1:
			l, e = node.Take(w, p.Key)
			delete(has, p.Key)
		case 2:
			l, e = node.Swap(w, p)
			if is {
				has[p.Key] = p.Ptr
			}
		}
		w = apply(w, l)
		n, _ := node.Of(w)
		if node.Check(w) != api.OK || len(n.Pairs) != len(has) {
			t.Fatal(e, n, has, was)
		}
		for _, p := range n.Pairs {
			if has[p.Key] != p.Ptr {
				t.Fatal(p, has)
			}
		}
	}
}
