package image_test

import (
	"bytes"
	"math/rand"
	"slices"
	"strconv"
	"testing"

	"hedgerow/api"
	"hedgerow/image"
	"hedgerow/inode"
	"hedgerow/layout"
	"hedgerow/model"
)

func lay(t *testing.T, blocks, inodes, records, bits int) api.Layout {
	t.Helper()
	l, e := layout.Of(api.Form{Blocks: blocks, Inodes: inodes, Records: records, Bits: bits}, [2]uint64{1, 2})
	if e != api.OK {
		t.Fatal(e)
	}
	return l
}

// made is a model behind calls: lines of a kind, a path, and what goes to it.
func made(t *testing.T, l api.Layout, calls ...api.Call) *model.Model {
	t.Helper()
	m, e := model.New(l)
	if e != api.OK {
		t.Fatal(e)
	}
	for _, c := range calls {
		if a := m.Do(c); a.Errno != api.OK {
			t.Fatal(c, a)
		}
	}
	return m
}

func some() []api.Call {
	return []api.Call{
		{Kind: api.CallMkdir, Path: "/a"}, {Kind: api.CallCreate, Path: "/a/f"}, {Kind: api.CallWrite, Path: "/a/f", At: 600, Bytes: []byte("hello")}, {Kind: api.CallLink, Path: "/a/f", To: "/g"},
		{Kind: api.CallSymlink, Path: "/a/l", To: "f"}, {Kind: api.CallMkdir, Path: "/a/d"}, {Kind: api.CallCreate, Path: "/a/d/empty"},
	}
}

func words(t *testing.T, m *model.Model, l api.Layout) []uint64 {
	t.Helper()
	w, e := image.Lay(l, m.State()...)
	if e != api.OK {
		t.Fatal(e)
	}
	return w
}

// P19.1, P19.2
func TestLayAndView(t *testing.T) {
	l := lay(t, 40, 16, 16, 8)
	x, e := image.View(words(t, made(t, l), l))
	if e != api.OK || !slices.Equal(x.Blocks, []int{l.Data}) || len(x.Records) != 0 || x.Layout != l {
		t.Error(x, e)
	}
	m := made(t, l, some()...)
	w := words(t, m, l)
	x, e = image.View(w)
	if e != api.OK || len(x.Blocks) != 5 || !slices.Equal(x.Records, []int{1, 2, 3, 4, 5, 6}) || x.Layout != l {
		t.Error(x, e)
	}
	back, e := model.Of(x.Layout, x.Things...)
	if e != api.OK || !model.Same(back, m) {
		t.Error(e, x.Things)
	}
	super, _ := layout.Super(l)
	if !slices.Equal(w[:64], super) || slices.Max(w[64:9*64]) != 0 {
		t.Error("super block, journals")
	}
	if w[l.Map*64] != 1<<(l.Data+5)-1 || slices.Max(w[l.Map*64+1:l.Data*64]) != 0 {
		t.Errorf("map: %x", w[l.Map*64])
	}
	root, _ := inode.Of(w[9*64 : 9*64+16])
	if root.Root != l.Data || root.Links != 1 || root.Parent != 1 {
		t.Error(root)
	}
	file, _ := inode.Of(w[9*64+32 : 9*64+48])
	if file.Links != 2 || file.Size != 605 || !slices.Equal(file.Map, []api.Extent{{File: 0, Dev: l.Data + 2, Many: 2}}) {
		t.Error(file)
	}
	if e := func() api.Errno { _, e := image.Lay(api.Layout{}, m.State()...); return e }(); e != api.ErrArg {
		t.Error(e)
	}
	if w, e := image.Lay(l); len(w) > 0 || e != api.ErrState {
		t.Error(e)
	}
	small := lay(t, 32, 16, 40, 8)
	full := made(t, small, api.Call{Kind: api.CallCreate, Path: "/f"}, api.Call{Kind: api.CallTruncate, Path: "/f", At: 512 * (32 - small.Data)})
	if w, e := image.Lay(small, full.State()...); len(w) > 0 || e != api.ErrSpace {
		t.Error(e)
	}
	full.Do(api.Call{Kind: api.CallTruncate, Path: "/f", At: 512 * (31 - small.Data)})
	if _, e := image.Lay(small, full.State()...); e != api.OK {
		t.Error(e)
	}
}

// P19.1: a file has as many blocks as its bytes need.
func TestBlocksOfAFile(t *testing.T) {
	l := lay(t, 40, 16, 16, 8)
	for size, blocks := range map[int]int{0: 0, 1: 1, 511: 1, 512: 1, 513: 2, 1024: 2, 1025: 3} {
		m := made(t, l, api.Call{Kind: api.CallCreate, Path: "/f"}, api.Call{Kind: api.CallWrite, Path: "/f", Bytes: bytes.Repeat([]byte{9}, size)})
		x, e := image.View(words(t, m, l))
		if e != api.OK || len(x.Blocks) != 1+blocks || !bytes.Equal(x.Things[1].Bytes, bytes.Repeat([]byte{9}, size)) {
			t.Error(size, x.Blocks, e)
		}
	}
}

// P19.2
func TestSame(t *testing.T) {
	l := lay(t, 40, 16, 16, 8)
	a, _ := image.View(words(t, made(t, l, some()...), l))
	for i, change := range []func(x *api.Image){
		func(x *api.Image) { x.Layout.Data++ }, func(x *api.Image) { x.Blocks[0]++ }, func(x *api.Image) { x.Records = nil }, func(x *api.Image) { x.Things = x.Things[1:] }, func(x *api.Image) { x.Things[0].Names[0].Key++ }, func(x *api.Image) { x.Things[2].Bytes[0]++ },
		func(x *api.Image) { x.Things[1].Links++ }, func(x *api.Image) { x.Things[1].Parent++ }, func(x *api.Image) { x.Things[3].Target = "" }, func(x *api.Image) { x.Things[1].Kind = 0 }, func(x *api.Image) { x.Things[1].Inode = 0 },
	} {
		b, _ := image.View(words(t, made(t, l, some()...), l))
		if !image.Same(a, b) {
			t.Fatal(i)
		}
		change(&b)
		if image.Same(a, b) {
			t.Error(i)
		}
	}
	if !image.Same(api.Image{Blocks: []int{}}, api.Image{}) {
		t.Error("none")
	}
}

// P19.2: words that have no state.
func TestNoState(t *testing.T) {
	l := lay(t, 40, 16, 16, 8)
	good := words(t, made(t, l, some()...), l)
	at := func(n int) int { w, _ := layout.Inode(l, n); return w }
	rec := func(n int) int { w, _ := layout.Record(l, n); return w }
	for i, c := range []struct {
		puts []api.Put
		e    api.Errno
	}{
		{[]api.Put{{At: 0}}, api.ErrSuper}, {[]api.Put{{At: at(1)}}, api.ErrImage}, {[]api.Put{{At: at(1), Value: 257}}, api.ErrImage}, {[]api.Put{{At: at(2)}}, api.ErrImage}, {[]api.Put{{At: at(2) + 2, Value: uint64(l.Data)}}, api.ErrImage}, {[]api.Put{{At: at(2) + 2, Value: 3}}, api.ErrImage},
		{[]api.Put{{At: at(3) + 2, Value: 5 << 16}}, api.ErrImage}, {[]api.Put{{At: at(3) + 2, Value: 0 | uint64(l.Data)<<16 | 2<<40}}, api.ErrImage}, {[]api.Put{{At: at(3) + 2, Value: 0 | 39<<16 | 2<<40}}, api.ErrImage}, {[]api.Put{{At: at(3) + 2, Value: 0 | 8<<16 | 1<<40}}, api.ErrImage},
		{[]api.Put{{At: at(4), Value: 9}}, api.ErrImage}, {[]api.Put{{At: rec(1)}}, api.ErrImage}, {[]api.Put{{At: rec(2), Value: good[rec(2)] - 2}}, api.ErrImage}, {[]api.Put{{At: rec(3), Value: good[rec(3)]&^0xffff | 2}}, api.ErrImage}, {[]api.Put{{At: rec(3), Value: good[rec(3)]&^0xffff | 17}}, api.ErrImage}, {[]api.Put{{At: rec(3), Value: good[rec(3)]&^0xffff | 16}}, api.ErrImage},
		{[]api.Put{{At: at(3) + 2, Value: 0 | 39<<16 | 1<<40}}, api.OK}, {[]api.Put{{At: at(3), Value: 1}}, api.OK}, {[]api.Put{{At: at(2) + 3, Value: 9}}, api.OK}, {[]api.Put{{At: at(9), Value: 77}}, api.OK}, {[]api.Put{{At: rec(12), Value: 77}, {At: l.Map * 64}, {At: 64, Value: 5}}, api.OK}, {[]api.Put{{At: at(3) + 2}}, api.OK},
	} {
		w := slices.Clone(good)
		for _, p := range c.puts {
			w[p.At] = p.Value
		}
		x, e := image.View(w)
		if e != c.e || e != api.OK && (len(x.Things) > 0 || len(x.Blocks) > 0 || len(x.Records) > 0 || x.Layout != (api.Layout{})) {
			t.Error(i, e)
		}
		if e == api.OK {
			if _, e := model.Of(x.Layout, x.Things...); e != api.OK {
				t.Error(i, e)
			}
		}
	}
	if _, e := image.View(nil); e != api.ErrSuper {
		t.Error(e)
	}
	for range image.Each(nil) {
		t.Error("a path of nothing")
	}
}

// P19.3
func TestEach(t *testing.T) {
	l := lay(t, 40, 16, 16, 40)
	m := made(t, l, some()...)
	seq := image.Each(words(t, m, l))
	for range 2 {
		var got []string
		for path, x := range seq {
			got = append(got, path)
			if a := m.Do(api.Call{Kind: api.CallReadlink, Path: path}); path != "/" && x.Kind == api.InodeLink && a.Text != x.Target {
				t.Error(path, x)
			}
			if a := m.Do(api.Call{Kind: api.CallLookup, Path: path}); x.Kind != api.InodeLink && a.Inode != x.Inode {
				t.Error(path, x)
			}
			for i := range x.Bytes {
				x.Bytes[i] = 99
			}
			for i := range x.Names {
				x.Names[i].Key = 99
			}
		}
		if got[0] != "/" || len(got) != 7 || slices.Index(got, "/a/d/empty") != slices.Index(got, "/a/d")+1 {
			t.Error(got)
		}
		sorted := slices.Sorted(slices.Values(got))
		if !slices.Equal(sorted, []string{"/", "/a", "/a/d", "/a/d/empty", "/a/f", "/a/l", "/g"}) {
			t.Error(sorted)
		}
		var order []string
		for _, n := range m.State()[0].Names {
			order = append(order, "/"+n.Name)
		}
		if slices.Index(got, order[0]) > slices.Index(got, order[1]) {
			t.Error(got, order)
		}
	}
	for _, x := range seq {
		if x.Inode == 3 && x.Bytes[0] == 99 || len(x.Names) > 0 && x.Names[0].Key == 99 {
			t.Error("lists are shared")
		}
	}
	for path := range seq {
		if path != "/" {
			t.Error(path)
		}
		break
	}
}

// P19.4
func TestThereAndBack(t *testing.T) {
	r := rand.New(rand.NewSource(19))
	l := lay(t, 120, 64, 128, 3)
	for range 20 {
		m := made(t, l)
		for range 150 {
			path := "/" + strconv.Itoa(r.Intn(60))
			c := api.Call{Kind: api.CallKind(1 + r.Intn(13)), Path: path, To: "/" + strconv.Itoa(r.Intn(60)), At: r.Intn(2000), Bytes: bytes.Repeat([]byte{5}, r.Intn(700))}
			if r.Intn(2) == 0 {
				c.Kind, c.Path = api.CallCreate, path+"/"+strconv.Itoa(r.Intn(60))
			}
			m.Do(c)
		}
		w, e := image.Lay(l, m.State()...)
		if e != api.OK {
			continue
		}
		x, e := image.View(w)
		back, f := model.Of(x.Layout, x.Things...)
		if e != api.OK || f != api.OK || !model.Same(back, m) {
			t.Fatal(e, f)
		}
		_, spare := m.Spare()
		if len(x.Records) != 128-spare {
			t.Fatal(x.Records, spare)
		}
		for range 30 {
			twisted := slices.Clone(w)
			for range 1 + r.Intn(4) {
				at := r.Intn(len(w))
				twisted[at] = []uint64{0, twisted[at] ^ 1<<r.Intn(64), uint64(r.Intn(300)), twisted[r.Intn(len(w))]}[r.Intn(4)]
			}
			if x, e := image.View(twisted); e == api.OK {
				if _, e := model.Of(x.Layout, x.Things...); e != api.OK {
					t.Fatal("what is told is no state")
				}
			}
		}
	}
}
