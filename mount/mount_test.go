package mount_test

import (
	"bytes"
	"math/rand"
	"slices"
	"strconv"
	"testing"

	"hedgerow/api"
	"hedgerow/deed"
	"hedgerow/image"
	"hedgerow/inode"
	"hedgerow/journal"
	"hedgerow/layout"
	"hedgerow/model"
	"hedgerow/mount"
	"hedgerow/record"
	"hedgerow/tree"
)

func form(blocks, inodes, records, bits int) api.Form {
	return api.Form{Blocks: blocks, Inodes: inodes, Records: records, Bits: bits}
}

func made(t *testing.T, f api.Form) []uint64 {
	t.Helper()
	w, e := mount.Make(f, [2]uint64{3, 4})
	if e != api.OK {
		t.Fatal(e)
	}
	return w
}

func apply(words []uint64, l ...api.Put) []uint64 {
	out := slices.Clone(words)
	for _, p := range l {
		out[p.At] = p.Value
	}
	return out
}

func behind(t *testing.T, words []uint64, calls ...api.Call) []uint64 {
	t.Helper()
	for _, c := range calls {
		a, l := deed.Do(words, 0, c)
		if a.Errno != api.OK {
			t.Fatal(c, a)
		}
		words = apply(words, l...)
	}
	return words
}

func state(t *testing.T, words []uint64) *model.Model {
	t.Helper()
	_, x, e := mount.Mount(words)
	if e != api.OK {
		t.Fatal(e)
	}
	m, e := model.Of(x.Layout, x.Things...)
	if e != api.OK {
		t.Fatal(e)
	}
	return m
}

// P24.1, P24.4
func TestMake(t *testing.T) {
	w := made(t, form(32, 8, 16, 8))
	if l, e := mount.Right(w); len(l) > 0 || e != api.OK || mount.Neat(w) != api.OK || deed.Whole(w) != api.OK {
		t.Error(l, e)
	}
	x, _ := image.View(w)
	m, _ := model.New(x.Layout)
	if got, _ := model.Of(x.Layout, x.Things...); !model.Same(m, got) {
		t.Error("not a new state")
	}
	// 1024 records need a tree of 61 blocks: with the root's leaf 62 blocks of data.
	for f, want := range map[api.Form]api.Errno{
		form(31, 8, 16, 8): api.ErrArg, form(32, 8, 1024, 8): api.ErrArg, {}: api.ErrArg, form(267+62, 4, 1024, 8): api.OK, form(267+61, 4, 1024, 8): api.ErrSpace, form(267+4, 4, 1024, 8): api.ErrSpace, form(267+3, 4, 1024, 8): api.ErrArg, form(32, 4, 64, 1): api.ErrSpace,
	} {
		w, e := mount.Make(f, [2]uint64{})
		if e != want || (len(w) == 0) != (e != api.OK) {
			t.Error(f, e)
		}
	}
}

// P24.2, P24.3
func TestRight(t *testing.T) {
	w := made(t, form(60, 8, 16, 8))
	w = behind(t, w, api.Call{Kind: api.CallMkdir, Path: "/d"}, api.Call{Kind: api.CallCreate, Path: "/d/f"}, api.Call{Kind: api.CallLink, Path: "/d/f", To: "/g"})
	l, _ := layout.Read(w)
	in := func(n int) int { at, _ := layout.Inode(l, n); return at }
	rec := func(n int) int { at, _ := layout.Record(l, n); return at }
	for i, c := range []struct {
		twist []api.Put
		want  []api.Put
	}{
		{[]api.Put{{At: in(5), Value: 257}}, []api.Put{{At: in(5)}}},
		{[]api.Put{{At: in(5) + 1, Value: 257}}, nil},
		{[]api.Put{{At: in(3), Value: 1 | 9<<8}}, []api.Put{{At: in(3), Value: 1 | 2<<8}}},
		{[]api.Put{{At: in(2) + 3, Value: 7}, {At: in(2), Value: 2}, {At: in(1) + 3, Value: 2}}, []api.Put{{At: in(1) + 3, Value: 1}, {At: in(2), Value: 258}, {At: in(2) + 3, Value: 1}}},
		{[]api.Put{{At: rec(9), Value: 5}, {At: rec(16), Value: 1 << 60}}, []api.Put{{At: rec(9)}, {At: rec(16)}}},
		{[]api.Put{{At: rec(4), Value: 5}, {At: rec(5) + 1, Value: 5}}, []api.Put{{At: rec(4)}}},
		{[]api.Put{{At: l.Map * 64}, {At: l.Map*64 + 63, Value: 4}}, []api.Put{{At: l.Map * 64, Value: w[l.Map*64]}, {At: l.Map*64 + 63}}},
		{[]api.Put{{At: 64 * 30, Value: 4}, {At: 66, Value: 9}}, nil},
		{[]api.Put{{At: in(8), Value: 5}, {At: rec(9), Value: 5}, {At: l.Map * 64}, {At: in(4), Value: 9}}, []api.Put{{At: in(4)}, {At: in(8)}, {At: rec(9)}, {At: l.Map * 64, Value: w[l.Map*64]}}},
	} {
		now := apply(w, c.twist...)
		got, e := mount.Right(now)
		neat := api.OK
		if len(c.want) > 0 {
			neat = api.ErrState
		}
		if e != api.OK || !slices.Equal(got, c.want) || mount.Neat(now) != neat {
			t.Error(i, got, e, mount.Neat(now))
		}
		back, x, e := mount.Mount(now)
		seen, _ := image.View(back)
		if e != api.OK || mount.Neat(back) != api.OK || deed.Whole(back) != api.OK || !image.Same(x, seen) || !slices.Equal(back, apply(now, got...)) {
			t.Error(i, e)
		}
		n := 0
		for j, p := range mount.Each(now) {
			if j != n || p != got[j] {
				t.Error(i, j, p)
			}
			n++
		}
		if n != len(got) {
			t.Error(i, n)
		}
	}
	fresh := made(t, form(60, 8, 16, 8))
	if got, e := mount.Right(apply(fresh, api.Put{At: rec(1), Value: 7})); e != api.OK || !slices.Equal(got, []api.Put{{At: rec(1)}}) {
		t.Error(got, e)
	}
	for range mount.Each(apply(w, api.Put{At: in(5), Value: 257}, api.Put{At: in(6), Value: 257})) {
		break
	}
}

// P24.2: the errors, in their order.
func TestErrors(t *testing.T) {
	w := made(t, form(40, 8, 16, 8))
	l, _ := layout.Read(w)
	at, _ := layout.Inode(l, 1)
	bad := api.Redo{Kind: api.RedoName, From: 1, FromKey: 1, To: 5, Record: 1, Inode: 2}
	wrong, _ := journal.Stores(l, 2, bad)
	for i, c := range []struct {
		words []uint64
		e     api.Errno
	}{
		{nil, api.ErrSuper}, {apply(w, api.Put{At: 0}), api.ErrSuper}, {w[:64], api.ErrSuper}, {apply(w, api.Put{At: 64 * 8, Value: 1}), api.ErrJournal}, {apply(w, wrong...), api.ErrRedo}, {apply(apply(w, wrong...), api.Put{At: 64 * 4, Value: 1}), api.ErrRedo}, {apply(apply(w, wrong...), api.Put{At: 64 * 2, Value: 1}), api.ErrJournal},
		{apply(w, api.Put{At: at}), api.ErrImage}, {apply(w, api.Put{At: at}, api.Put{At: 64, Value: 1}), api.ErrJournal},
	} {
		got, e := mount.Right(c.words)
		back, x, f := mount.Mount(c.words)
		if len(got) > 0 || e != c.e || len(back) > 0 || f != c.e || len(x.Things) > 0 || x.Layout != (api.Layout{}) || mount.Neat(c.words) != c.e {
			t.Error(i, e, f, mount.Neat(c.words))
		}
		for range mount.Each(c.words) {
			t.Error(i)
		}
	}
}

// P24.2: trees that are not settled are built anew; ErrSpace, where they can't be.
func TestTreesAnew(t *testing.T) {
	w := made(t, form(60, 64, 64, 40))
	l, _ := layout.Read(w)
	at, _ := layout.Inode(l, 1)
	for i := range 27 {
		w = behind(t, w, api.Call{Kind: api.CallCreate, Path: "/f" + strconv.Itoa(i)})
	}
	_, s := deed.Do(w, 0, api.Call{Kind: api.CallCreate, Path: "/last"})
	i := slices.IndexFunc(s, func(p api.Put) bool { return p.At == l.Data*64+1 })
	half := apply(w, s[:i+1]...)
	if tree.Check(half, at+2) != api.ErrTree {
		t.Fatal("the test's own words")
	}
	got, e := mount.Right(half)
	x, _ := image.View(half)
	top, build, _, _ := tree.Build(mustAll(t, half, at+2), freeOf(x)...)
	want := append(build, api.Put{At: at + 2, Value: uint64(top)})
	if e != api.OK || !slices.Equal(got[:len(want)], want) {
		t.Error(e, got[:3])
	}
	if !model.Same(state(t, w), state(t, half)) {
		t.Error("another state")
	}
	// No free block: a file has all that are left.
	n, _ := layout.Inode(l, 2)
	var runs []api.Extent
	file := 0
	for _, b := range freeOf(x) {
		runs = append(runs, api.Extent{File: file, Dev: b, Many: 1})
		file++
	}
	joined := []api.Extent{{File: 0, Dev: runs[0].Dev, Many: len(runs)}}
	full, e := inode.Words(api.Inode{Kind: api.InodeFile, Links: 1, Size: 512 * len(runs), Map: joined})
	if e != api.OK {
		t.Fatal(e)
	}
	tight := slices.Clone(half)
	copy(tight[n:], full)
	if got, e := mount.Right(tight); len(got) > 0 || e != api.ErrSpace {
		t.Error(e)
	}
}

func mustAll(t *testing.T, w []uint64, at int) []api.Pair {
	t.Helper()
	p, e := tree.All(w, at)
	if e != api.OK {
		t.Fatal(e)
	}
	return p
}

func freeOf(x api.Image) []int {
	var out []int
	for b := x.Layout.Data; b < x.Layout.Form.Blocks; b++ {
		if !slices.Contains(x.Blocks, b) {
			out = append(out, b)
		}
	}
	return out
}

func someCall(r *rand.Rand) api.Call {
	name := func() string { return "/" + strconv.Itoa(r.Intn(30)) }
	path := func() string {
		if r.Intn(2) == 0 {
			return "/" + strconv.Itoa(r.Intn(2)) + name()
		}
		return name()
	}
	c := api.Call{Kind: api.CallKind(1 + r.Intn(7)), Path: path(), To: path(), At: r.Intn(1500), Bytes: bytes.Repeat([]byte{byte(r.Intn(5))}, r.Intn(900))}
	switch r.Intn(4) {
	case 0:
		c.Kind = api.CallCreate
	case 1:
		c.Kind = api.CallWrite + api.CallKind(r.Intn(2))
	}
	return c
}

// P24.5, P24.6
func TestCutOffAnywhere(t *testing.T) {
	r := rand.New(rand.NewSource(24))
	for round := range 3 {
		w := made(t, form(60+10*round, 32, 64, 1+9*round))
		for range 120 {
			c := someCall(r)
			a, s := deed.Do(w, r.Intn(8), c)
			if a.Errno == api.OK {
				cutOff(t, r, w, s)
			}
			w = apply(w, s...)
			if mount.Neat(w) != api.OK {
				t.Fatal(c, "not neat behind a call")
			}
		}
	}
}

func cutOff(t *testing.T, r *rand.Rand, w []uint64, s []api.Put) {
	t.Helper()
	was, will := state(t, w), state(t, apply(w, s...))
	done := false
	for n := range len(s) + 1 {
		if n%9 != 0 && n < len(s)-12 && r.Intn(6) > 0 {
			continue
		}
		now := apply(w, s[:n]...)
		got := state(t, now)
		if !model.Same(got, will) && (done || !model.Same(got, was)) {
			t.Fatal(n, len(s))
		}
		done = model.Same(got, will)
		right, _ := mount.Right(now)
		for k := range len(right) + 1 {
			if k%40 == 0 || r.Intn(30) == 0 {
				again := apply(now, right[:k]...)
				if !model.Same(state(t, again), got) {
					t.Fatal(n, k, "cut off as it is put right")
				}
			}
		}
		back := apply(now, right...)
		if mount.Neat(back) != api.OK || deed.Whole(back) != api.OK {
			t.Fatal(n, "what is put right is not neat, and whole")
		}
	}
	if !done {
		t.Fatal("behind all stores it is not what it will be")
	}
}

// P24.4: any words are mounted, or refused.
func TestAnyWords(t *testing.T) {
	r := rand.New(rand.NewSource(25))
	w := made(t, form(60, 32, 64, 6))
	for range 60 {
		_, s := deed.Do(w, 0, someCall(r))
		w = apply(w, s...)
	}
	l, _ := layout.Read(w)
	if _, e := record.Sum(l, "a"); e != api.OK {
		t.Fatal(e)
	}
	mounted := 0
	for range 4000 {
		now := slices.Clone(w)
		if r.Intn(3) == 0 {
			_, s := deed.Do(w, r.Intn(8), someCall(r))
			now = apply(now, s[:r.Intn(len(s)+1)]...)
		}
		for range 1 + r.Intn(5) {
			at := 64 + r.Intn(len(now)-64)
			if r.Intn(2) == 0 {
				at = l.Data*64 + r.Intn(64*8)
			}
			now[at] = []uint64{0, now[at] ^ 1<<r.Intn(64), uint64(r.Intn(100)), now[64+r.Intn(len(now)-64)]}[r.Intn(4)]
		}
		back, x, e := mount.Mount(now)
		if e != api.OK {
			continue
		}
		mounted++
		if mount.Neat(back) != api.OK || deed.Whole(back) != api.OK {
			t.Fatal("what is mounted is not neat, and whole")
		}
		if _, e := model.Of(x.Layout, x.Things...); e != api.OK {
			t.Fatal(e)
		}
	}
	if mounted < 100 {
		t.Error(mounted)
	}
	for range 300 {
		noise := make([]uint64, 64*(1+r.Intn(50)))
		for i := range noise {
			noise[i] = r.Uint64()
		}
		if _, _, e := mount.Mount(noise); e != api.ErrSuper {
			t.Fatal(e)
		}
	}
}

// P24.4: whatever redos the journals have.
func TestAnyRedos(t *testing.T) {
	r := rand.New(rand.NewSource(26))
	w := made(t, form(90, 64, 128, 6))
	w = behind(t, w, api.Call{Kind: api.CallMkdir, Path: "/d"}, api.Call{Kind: api.CallMkdir, Path: "/d/e"})
	for i := range 45 {
		dir := []string{"/", "/d/", "/d/e/"}[i%3]
		w = behind(t, w, api.Call{Kind: api.CallCreate, Path: dir + strconv.Itoa(i)})
	}
	for i := range 40 {
		w = behind(t, w, api.Call{Kind: api.CallLink, Path: "/0", To: "/l" + strconv.Itoa(i)})
	}
	l, _ := layout.Read(w)
	x, _ := image.View(w)
	key := func() uint64 {
		names := x.Things[r.Intn(3)].Names
		return names[r.Intn(len(names))].Key + uint64(r.Intn(2))
	}
	mounted := 0
	for range 1500 {
		now := slices.Clone(w)
		for range 1 + r.Intn(3) {
			redo := api.Redo{Kind: api.RedoName, From: 1 + r.Intn(3), FromKey: key(), To: 1 + r.Intn(3), ToKey: key(), Record: 1 + r.Intn(128), Inode: 1 + r.Intn(50), Dir: r.Intn(2) == 0}
			if r.Intn(3) == 0 {
				file, _ := inode.Words(api.Inode{Kind: api.InodeFile, Links: r.Intn(9), Size: 700, Map: []api.Extent{{File: 0, Dev: l.Data + r.Intn(20), Many: 1 + r.Intn(2)}}})
				redo = api.Redo{Kind: api.RedoInode, Inode: 1 + r.Intn(50), Words: [api.InodeWords]uint64(file)}
			}
			s, e := journal.Stores(l, r.Intn(8), redo)
			if e != api.OK {
				continue
			}
			now = apply(now, s...)
			if rec, _ := layout.Record(l, max(1, redo.Record)); redo.Record > 0 && r.Intn(2) == 0 {
				n, _ := record.Stores(rec, api.Record{Inode: redo.Inode, Name: "n" + strconv.Itoa(r.Intn(400))})
				now = apply(now, n...)
			}
		}
		for range r.Intn(3) {
			now[l.Data*64+r.Intn(64*12)] = uint64(r.Intn(60))
		}
		back, _, e := mount.Mount(now)
		if e != api.OK {
			continue
		}
		mounted++
		if mount.Neat(back) != api.OK || deed.Whole(back) != api.OK {
			t.Fatal("what is mounted is not neat, and whole")
		}
	}
	if mounted < 50 {
		t.Error(mounted)
	}
}
