package walk_test

import (
	"slices"
	"strings"
	"testing"

	"hedgerow/api"
	"hedgerow/names"
	"hedgerow/walk"
)

type entry struct {
	dir  int
	name string
}

func dirOf(n int) api.Found { return api.Found{Inode: n, Kind: api.InodeDir} }

func fileOf(n int) api.Found { return api.Found{Inode: n, Kind: api.InodeFile} }

func linkOf(n int, to string) api.Found {
	return api.Found{Inode: n, Kind: api.InodeLink, Target: to}
}

func world() map[entry]api.Found {
	return map[entry]api.Found{
		{1, "a"}: dirOf(2), {2, "b"}: fileOf(3), {2, ".."}: {Inode: 1}, {1, ".."}: {Inode: 1, Kind: api.InodeFile},
		{1, "l"}: linkOf(4, "a"), {1, "abs"}: linkOf(5, "/a/b"), {2, "up"}: linkOf(6, "../l/b"), {1, "loop"}: linkOf(7, "loop"), {1, "root"}: linkOf(8, "/"), {1, "bad"}: linkOf(9, "x\x00"),
		{1, "wide"}: linkOf(10, strings.Repeat("x", 121)), {1, "odd"}: {Inode: 11, Kind: 9}, {2, "dots"}: linkOf(12, "."), {1, "lost"}: linkOf(13, "gone"), {1, "empty"}: linkOf(14, ""), {2, "rel"}: linkOf(15, "b"), {2, "top"}: linkOf(16, "/l/b"), {2, "none"}: linkOf(17, "/b"),
		{1, "c1"}: linkOf(21, "c2"), {1, "c2"}: linkOf(22, "c3"), {1, "c3"}: linkOf(23, "c4"), {1, "c4"}: linkOf(24, "c5"), {1, "c5"}: linkOf(25, "c6"), {1, "c6"}: linkOf(26, "c7"), {1, "c7"}: linkOf(27, "c8"), {1, "c8"}: linkOf(28, "a"), {1, "c0"}: linkOf(20, "c1"),
	}
}

func find(dir int, name string) (api.Found, bool) {
	f, is := world()[entry{dir, name}]
	return f, is
}

// P17.2
func TestGo(t *testing.T) {
	at := func(dir int, name string, f api.Found) api.Walked {
		return api.Walked{Dir: dir, Name: name, Inode: f.Inode, Kind: f.Kind}
	}
	in := func(n int) api.Walked { return api.Walked{Inode: n, Kind: api.InodeDir} }
	no := func(e api.Errno) api.Walked { return api.Walked{Errno: e} }
	for _, c := range []struct {
		path   string
		follow bool
		want   api.Walked
		e      api.Errno
	}{
		{"/", false, in(1), api.OK}, {"/.", false, in(1), api.OK}, {"/..", false, in(1), api.OK}, {"/a", false, at(1, "a", dirOf(2)), api.OK}, {"/a/.", false, in(2), api.OK}, {"/a/..", false, in(1), api.OK},
		{"//a//b", false, at(2, "b", fileOf(3)), api.OK}, {"/l", false, at(1, "l", linkOf(4, "")), api.OK}, {"/l", true, at(1, "a", dirOf(2)), api.OK}, {"/l/b", false, at(2, "b", fileOf(3)), api.OK}, {"/l/.", false, in(2), api.OK},
		{"/abs", true, at(2, "b", fileOf(3)), api.OK}, {"/a/up", true, at(2, "b", fileOf(3)), api.OK}, {"/a/rel", true, at(2, "b", fileOf(3)), api.OK}, {"/a/dots", true, in(2), api.OK}, {"/a/top", true, at(2, "b", fileOf(3)), api.OK}, {"/a/none", true, api.Walked{Errno: api.ErrNoEnt, Dir: 1, Name: "b"}, api.OK}, {"/root", true, in(1), api.OK}, {"/empty", true, in(1), api.OK},
		{"/loop", true, no(api.ErrLoop), api.OK}, {"/loop/x", false, no(api.ErrLoop), api.OK}, {"/c1", true, at(1, "a", dirOf(2)), api.OK}, {"/c0", true, no(api.ErrLoop), api.OK},
		{"/bad", true, no(api.ErrName), api.OK}, {"/bad", false, at(1, "bad", linkOf(9, "")), api.OK}, {"/wide/x", false, no(api.ErrWide), api.OK}, {"/odd", false, at(1, "odd", api.Found{Inode: 11, Kind: 9}), api.OK}, {"/odd/x", false, no(api.ErrNotDir), api.OK},
		{"/a/c", false, api.Walked{Errno: api.ErrNoEnt, Dir: 2, Name: "c"}, api.OK}, {"/c/b", false, no(api.ErrNoEnt), api.OK}, {"/c/.", false, no(api.ErrNoEnt), api.OK}, {"/lost", true, api.Walked{Errno: api.ErrNoEnt, Dir: 1, Name: "gone"}, api.OK},
		{"/a/b/c", false, no(api.ErrNotDir), api.OK}, {"/a/b/.", false, no(api.ErrNotDir), api.OK}, {"/a/b/..", false, no(api.ErrNotDir), api.OK},
		{"b", false, api.Walked{}, api.ErrName}, {strings.Repeat("/", 1001), false, api.Walked{}, api.ErrLong}, {"/" + strings.Repeat("x", 121), false, api.Walked{}, api.ErrWide},
	} {
		if got, e := walk.Go(c.path, c.follow, find); got != c.want || e != c.e {
			t.Error(c.path, c.follow, got, e)
		}
	}
	if got, e := walk.Go("/a", false, nil); got != (api.Walked{Errno: api.ErrNoEnt, Dir: 1, Name: "a"}) || e != api.OK {
		t.Error(got, e)
	}
	if got, e := walk.Go("/..", false, nil); got != (api.Walked{Errno: api.ErrNoEnt, Dir: 1, Name: ".."}) || e != api.OK {
		t.Error(got, e)
	}
}

// P17.1
func TestWalker(t *testing.T) {
	if w, e := walk.New("a", true); w != nil || e != api.ErrName {
		t.Error(e)
	}
	w, e := walk.New("/./l/../x", false)
	if e != api.OK || !slices.Equal(w.Left(), []string{"l", "..", "x"}) {
		t.Error(w.Left(), e)
	}
	if d, n, is := w.Asks(); d != 1 || n != "l" || !is {
		t.Error(d, n, is)
	}
	if x, is := w.Done(); x != (api.Walked{}) || is {
		t.Error(x, is)
	}
	c := w.Copy()
	if w.Give(linkOf(4, "a/./q")) != api.OK || !slices.Equal(w.Left(), []string{"a", ".", "q", "..", "x"}) || !slices.Equal(c.Left(), []string{"l", "..", "x"}) {
		t.Error(w.Left(), c.Left())
	}
	w.Left()[0] = "changed"
	w.Give(dirOf(2))
	if d, n, is := w.Asks(); d != 2 || n != "q" || !is {
		t.Error(d, n, is)
	}
	w.Give(dirOf(3))
	w.Give(api.Found{Inode: 7})
	if d, n, is := w.Asks(); d != 7 || n != "x" || !is {
		t.Error(d, n, is)
	}
	if w.Miss() != api.OK || len(w.Left()) > 0 || w.Give(dirOf(1)) != api.ErrNone || w.Miss() != api.ErrNone {
		t.Error("done")
	}
	if x, is := w.Done(); x != (api.Walked{Errno: api.ErrNoEnt, Dir: 7, Name: "x"}) || !is {
		t.Error(x, is)
	}
	if d, n, is := w.Asks(); d != 0 || n != "" || is {
		t.Error(d, n, is)
	}
	if c.Miss() != api.OK {
		t.Error("a copy does not go on apart")
	}
	if x, _ := c.Done(); x != (api.Walked{Errno: api.ErrNoEnt}) {
		t.Error(x)
	}
	odd, _ := walk.New("/../a", false)
	odd.Give(api.Found{})
	if d, n, is := odd.Asks(); d != 0 || n != "a" || !is || odd.Copy() == nil {
		t.Error(d, n, is)
	}
	for _, none := range []*walk.Walker{nil, {}} {
		d, n, asks := none.Asks()
		x, done := none.Done()
		if d != 0 || n != "" || asks || x != (api.Walked{}) || done || len(none.Left()) > 0 || none.Copy() != nil || none.Give(dirOf(1)) != api.ErrNil || none.Miss() != api.ErrNil {
			t.Error("none")
		}
	}
}

// P17.3
func TestEndsAndShort(t *testing.T) {
	target := strings.Repeat("a/", 55) + "l"
	n := 0
	long := strings.Repeat("/l", 499)
	walk.Go(long, true, func(dir int, name string) (api.Found, bool) {
		n++
		if name == "l" {
			return linkOf(4, target), true
		}
		return dirOf(dir), true
	})
	if n == 0 || n > 1000 {
		t.Error(n)
	}
	for _, path := range []string{"//a/./b//", "/l/../a//b", "/c1/b", "/a/up", "/a/c"} {
		short, _ := names.Short(path)
		for _, follow := range []bool{false, true} {
			a, _ := walk.Go(path, follow, find)
			b, _ := walk.Go(short, follow, find)
			if a != b {
				t.Error(path, a, b)
			}
		}
	}
	dir, name, _ := names.Split("/a/b")
	a, _ := walk.Go(dir, false, find)
	b, _ := walk.Go("/a/b", false, find)
	if f, _ := find(a.Inode, name); b.Inode != f.Inode || b.Dir != a.Inode {
		t.Error(a, b)
	}
}
