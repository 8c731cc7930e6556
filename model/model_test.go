package model_test

import (
	"bytes"
	"math"
	"math/rand"
	"slices"
	"strconv"
	"strings"
	"testing"

	"hedgerow/api"
	"hedgerow/layout"
	"hedgerow/model"
	"hedgerow/record"
)

func lay(t *testing.T, inodes, records, bits int) api.Layout {
	t.Helper()
	l, e := layout.Of(api.Form{Blocks: 400, Inodes: inodes, Records: records, Bits: bits}, [2]uint64{1, 2})
	if e != api.OK {
		t.Fatal(e)
	}
	return l
}

func made(t *testing.T, inodes, records, bits int) *model.Model {
	t.Helper()
	m, e := model.New(lay(t, inodes, records, bits))
	if e != api.OK {
		t.Fatal(e)
	}
	return m
}

type row struct {
	c api.Call
	a api.Answer
}

func play(t *testing.T, m *model.Model, rows ...row) {
	t.Helper()
	for i, r := range rows {
		was := m.Copy()
		a := m.Do(r.c)
		if !model.SameAnswer(a, r.a) {
			t.Errorf("%d: %+v: %+v, not %+v", i, r.c, a, r.a)
		}
		if (a.Errno != api.OK || !model.Writes(r.c)) && !model.Same(was, m) {
			t.Errorf("%d: %+v changed something", i, r.c)
		}
	}
}

func call(k api.CallKind, path string) api.Call { return api.Call{Kind: k, Path: path} }

func two(k api.CallKind, path, to string) api.Call { return api.Call{Kind: k, Path: path, To: to} }

func no(e api.Errno) api.Answer { return api.Answer{Errno: e} }

func in(n int) api.Answer { return api.Answer{Inode: n} }

// P18.2
func TestExamples(t *testing.T) {
	m := made(t, 8, 16, 8)
	play(t, m,
		row{call(api.CallMkdir, "/a"), in(2)},
		row{call(api.CallCreate, "/a/f"), in(3)},
		row{api.Call{Kind: api.CallWrite, Path: "/a/f", At: 1, Bytes: []byte("hi")}, api.Answer{Size: 2}},
		row{api.Call{Kind: api.CallRead, Path: "/a/f", Many: 9}, api.Answer{Bytes: []byte("\x00hi")}},
		row{two(api.CallLink, "/a/f", "/g"), in(3)},
		row{call(api.CallStat, "/g"), api.Answer{Inode: 3, Kind: api.InodeFile, Links: 2, Size: 3}},
		row{call(api.CallUnlink, "/a/f"), api.Answer{}},
		row{call(api.CallStat, "/g"), api.Answer{Inode: 3, Kind: api.InodeFile, Links: 1, Size: 3}},
		row{two(api.CallRename, "/a", "/a/b"), no(api.ErrInside)},
		row{call(api.CallRmdir, "/a"), api.Answer{}},
		row{call(api.CallLookup, "/a"), no(api.ErrNoEnt)},
		row{call(api.CallRmdir, "/"), no(api.ErrBusy)},
	)
}

// P18.2
func TestMaking(t *testing.T) {
	m := made(t, 4, 4, 8)
	play(t, m,
		row{call(api.CallMkdir, "/"), no(api.ErrExists)}, row{call(api.CallCreate, "/x/y"), no(api.ErrNoEnt)}, row{call(api.CallMkdir, "x"), no(api.ErrName)}, row{call(api.CallCreate, "/"+strings.Repeat("n", 121)), no(api.ErrWide)}, row{call(api.CallMkdir, strings.Repeat("/", 1001)), no(api.ErrLong)},
		row{two(api.CallSymlink, "x", ""), no(api.ErrArg)}, row{two(api.CallSymlink, "/l", strings.Repeat("x", 113)), no(api.ErrArg)}, row{two(api.CallSymlink, "/l", "a\x00"), no(api.ErrArg)}, row{two(api.CallSymlink, "x", "a"), no(api.ErrName)},
		row{call(api.CallMkdir, "/d"), in(2)}, row{call(api.CallMkdir, "/d"), no(api.ErrExists)}, row{call(api.CallCreate, "/d/."), no(api.ErrExists)}, row{call(api.CallCreate, "/d/./f"), in(3)}, row{call(api.CallCreate, "/d/f/g"), no(api.ErrNotDir)},
		row{two(api.CallSymlink, "/d/l", "../d/f"), in(4)}, row{two(api.CallSymlink, "/d/l", "b"), no(api.ErrExists)}, row{call(api.CallReadlink, "/d/l"), api.Answer{Text: "../d/f"}}, row{call(api.CallReadlink, "/d/f"), no(api.ErrArg)}, row{call(api.CallReadlink, "/"), no(api.ErrArg)}, row{call(api.CallReadlink, "/q"), no(api.ErrNoEnt)},
		row{call(api.CallCreate, "/e"), no(api.ErrNoInode)}, row{call(api.CallCreate, "/d/l"), no(api.ErrExists)}, row{call(api.CallCreate, "/e/"), no(api.ErrNoInode)},
		row{call(api.CallLookup, "/d/l"), api.Answer{Inode: 3, Kind: api.InodeFile}}, row{call(api.CallLookup, "/"), api.Answer{Inode: 1, Kind: api.InodeDir}}, row{call(api.CallStat, "/d"), api.Answer{Inode: 2, Kind: api.InodeDir, Links: 1, Size: 2}},
		row{two(api.CallLink, "/d/f", "/h"), in(3)}, row{two(api.CallLink, "/d/f", "/i"), no(api.ErrNoRecord)}, row{two(api.CallRename, "/h", "/k"), no(api.ErrNoRecord)}, row{two(api.CallRename, "/h", "/d/f"), in(3)}, row{two(api.CallRename, "/h", "/h"), in(3)},
		row{call(api.CallUnlink, "/h"), api.Answer{}}, row{call(api.CallCreate, "/e"), no(api.ErrNoInode)}, row{call(api.CallUnlink, "/d/l"), api.Answer{}}, row{call(api.CallCreate, "/e"), in(4)},
		row{call(api.CallUnlink, "/e"), api.Answer{}}, row{two(api.CallSymlink, "/dang", "gone"), in(4)}, row{call(api.CallCreate, "/dang"), no(api.ErrExists)}, row{call(api.CallLookup, "/dang"), no(api.ErrNoEnt)}, row{call(api.CallCreate, "/dang/x"), no(api.ErrNoEnt)},
		row{call(api.CallNone, "/"), no(api.ErrArg)}, row{call(15, "/"), no(api.ErrArg)}, row{call(-1, ""), no(api.ErrArg)},
	)
	m = made(t, 8, 4, 8)
	play(t, m,
		row{call(api.CallMkdir, "/d"), in(2)}, row{call(api.CallCreate, "/f"), in(3)}, row{two(api.CallSymlink, "/l", "d"), in(4)}, row{call(api.CallCreate, "/l/x"), in(5)}, row{call(api.CallCreate, "/y"), no(api.ErrNoRecord)},
	)
	if i, r := m.Spare(); i != 3 || r != 0 {
		t.Error(i, r)
	}
}

// P18.2
func TestTakingAndLinking(t *testing.T) {
	m := made(t, 16, 16, 8)
	play(t, m,
		row{call(api.CallMkdir, "/d"), in(2)}, row{call(api.CallMkdir, "/d/e"), in(3)}, row{call(api.CallCreate, "/f"), in(4)}, row{two(api.CallSymlink, "/l", "f"), in(5)}, row{two(api.CallSymlink, "/ld", "d"), in(6)},
		row{two(api.CallLink, "/d", "x"), no(api.ErrIsDir)}, row{two(api.CallLink, "/", "/x"), no(api.ErrIsDir)}, row{two(api.CallLink, "/q", "x"), no(api.ErrNoEnt)}, row{two(api.CallLink, "/f", "x"), no(api.ErrName)}, row{two(api.CallLink, "/f", "/q/x"), no(api.ErrNoEnt)}, row{two(api.CallLink, "/f", "/l"), no(api.ErrExists)}, row{two(api.CallLink, "/f", "/f"), no(api.ErrExists)}, row{two(api.CallLink, "/f", "/"), no(api.ErrExists)}, row{two(api.CallLink, "/f", "/f/x"), no(api.ErrNotDir)},
		row{two(api.CallLink, "/l", "/d/l2"), in(5)}, row{call(api.CallUnlink, "/l"), api.Answer{}}, row{call(api.CallReadlink, "/d/l2"), api.Answer{Text: "f"}}, row{call(api.CallUnlink, "/d/l2"), api.Answer{}}, row{call(api.CallLookup, "/d/l2"), no(api.ErrNoEnt)},
		row{call(api.CallUnlink, "/d"), no(api.ErrIsDir)}, row{call(api.CallUnlink, "/"), no(api.ErrIsDir)}, row{call(api.CallUnlink, "/d/."), no(api.ErrIsDir)}, row{call(api.CallUnlink, "/q"), no(api.ErrNoEnt)},
		row{call(api.CallRmdir, "/d"), no(api.ErrNotEmpty)}, row{call(api.CallRmdir, "/f"), no(api.ErrNotDir)}, row{call(api.CallRmdir, "/ld"), no(api.ErrNotDir)}, row{call(api.CallRmdir, "/d/e/."), no(api.ErrBusy)}, row{call(api.CallRmdir, "/d/e/.."), no(api.ErrBusy)}, row{call(api.CallRmdir, "/q"), no(api.ErrNoEnt)},
		row{call(api.CallRmdir, "/ld/e"), api.Answer{}}, row{call(api.CallRmdir, "/d"), api.Answer{}}, row{call(api.CallLookup, "/ld"), no(api.ErrNoEnt)}, row{call(api.CallUnlink, "/ld"), api.Answer{}},
	)
}

// P18.2
func TestRename(t *testing.T) {
	m := made(t, 16, 32, 8)
	play(t, m,
		row{call(api.CallMkdir, "/d"), in(2)}, row{call(api.CallMkdir, "/d/e"), in(3)}, row{call(api.CallCreate, "/f"), in(4)}, row{call(api.CallCreate, "/d/g"), in(5)}, row{call(api.CallMkdir, "/z"), in(6)}, row{two(api.CallLink, "/f", "/f2"), in(4)},
		row{two(api.CallRename, "/", "x"), no(api.ErrBusy)}, row{two(api.CallRename, "/d/.", "/x"), no(api.ErrBusy)}, row{two(api.CallRename, "/q", "x"), no(api.ErrNoEnt)}, row{two(api.CallRename, "/f", "x"), no(api.ErrName)}, row{two(api.CallRename, "/f", "/q/x"), no(api.ErrNoEnt)}, row{two(api.CallRename, "/f", "/"), no(api.ErrBusy)}, row{two(api.CallRename, "/d", "/d/."), no(api.ErrBusy)}, row{two(api.CallRename, "/f", "/f/x"), no(api.ErrNotDir)},
		row{two(api.CallRename, "/f", "/f2"), in(4)}, row{call(api.CallStat, "/f"), api.Answer{Inode: 4, Kind: api.InodeFile, Links: 2}}, row{two(api.CallRename, "/d", "/d"), in(2)},
		row{two(api.CallRename, "/d", "/d/e/x"), no(api.ErrInside)}, row{two(api.CallRename, "/d", "/d/e"), no(api.ErrInside)}, row{two(api.CallRename, "/d", "/d/g"), no(api.ErrInside)}, row{two(api.CallRename, "/d", "/f"), no(api.ErrNotDir)}, row{two(api.CallRename, "/z", "/d"), no(api.ErrNotEmpty)}, row{two(api.CallRename, "/f", "/z"), no(api.ErrIsDir)}, row{two(api.CallRename, "/d/e", "/d"), no(api.ErrNotEmpty)}, row{two(api.CallRename, "/d/g", "/d"), no(api.ErrIsDir)},
		row{two(api.CallRename, "/d", "/z"), in(2)}, row{call(api.CallLookup, "/d"), no(api.ErrNoEnt)}, row{call(api.CallLookup, "/z/e/../g"), api.Answer{Inode: 5, Kind: api.InodeFile}}, row{call(api.CallMkdir, "/n"), in(6)},
		row{two(api.CallRename, "/z/e", "/n/e2"), in(3)}, row{call(api.CallLookup, "/n/e2/.."), api.Answer{Inode: 6, Kind: api.InodeDir}}, row{two(api.CallRename, "/f", "/z/g"), in(4)}, row{call(api.CallStat, "/z/g"), api.Answer{Inode: 4, Kind: api.InodeFile, Links: 2}}, row{call(api.CallCreate, "/new"), in(5)},
	)
}

// P18.2: links are moved, and taken over, themselves; they are followed, where it is said.
func TestLinksThemselves(t *testing.T) {
	m := made(t, 16, 32, 8)
	play(t, m,
		row{call(api.CallMkdir, "/d"), in(2)}, row{call(api.CallCreate, "/f"), in(3)}, row{two(api.CallSymlink, "/lf", "f"), in(4)}, row{two(api.CallSymlink, "/ld", "d"), in(5)}, row{two(api.CallSymlink, "/full", strings.Repeat("x", 112)), in(6)},
		row{call(api.CallStat, "/lf"), api.Answer{Inode: 3, Kind: api.InodeFile, Links: 1}}, row{call(api.CallLookup, "/ld"), api.Answer{Inode: 2, Kind: api.InodeDir}}, row{two(api.CallRename, "/lf", "/moved"), in(4)}, row{call(api.CallReadlink, "/moved"), api.Answer{Text: "f"}}, row{call(api.CallLookup, "/lf"), no(api.ErrNoEnt)},
		row{two(api.CallRename, "/f", "/moved"), in(3)}, row{call(api.CallLookup, "/moved"), api.Answer{Inode: 3, Kind: api.InodeFile}}, row{call(api.CallLookup, "/f"), no(api.ErrNoEnt)}, row{two(api.CallRename, "/moved", "/ld"), in(3)}, row{call(api.CallLookup, "/ld"), api.Answer{Inode: 3, Kind: api.InodeFile}}, row{call(api.CallStat, "/d"), api.Answer{Inode: 2, Kind: api.InodeDir, Links: 1}},
		row{api.Call{Kind: api.CallWrite, Path: "/ld", Bytes: make([]byte, 65536)}, api.Answer{Size: 65536}},
	)
}

// P18.2
func TestBytes(t *testing.T) {
	m := made(t, 8, 16, 8)
	read := func(at, many int) api.Call {
		return api.Call{Kind: api.CallRead, Path: "/l", At: at, Many: many}
	}
	write := func(path string, at int, b string) api.Call {
		return api.Call{Kind: api.CallWrite, Path: path, At: at, Bytes: []byte(b)}
	}
	cut := func(path string, at int) api.Call {
		return api.Call{Kind: api.CallTruncate, Path: path, At: at}
	}
	play(t, m,
		row{call(api.CallCreate, "/f"), in(2)}, row{two(api.CallSymlink, "/l", "f"), in(3)}, row{call(api.CallMkdir, "/d"), in(4)},
		row{write("x", -1, ""), no(api.ErrArg)}, row{write("x", 65537, ""), no(api.ErrBig)}, row{write("x", math.MaxInt, "a"), no(api.ErrBig)}, row{write("x", 0, strings.Repeat("a", 65537)), no(api.ErrBig)}, row{write("x", 65536, "a"), no(api.ErrBig)}, row{write("x", 65536, ""), no(api.ErrName)}, row{write("/d", 0, ""), no(api.ErrIsDir)}, row{write("/q", 0, "a"), no(api.ErrNoEnt)},
		row{write("/l", 9, ""), api.Answer{}}, row{call(api.CallStat, "/f"), api.Answer{Inode: 2, Kind: api.InodeFile, Links: 1}},
		row{write("/l", 2, "abc"), api.Answer{Size: 3}}, row{read(0, 9), api.Answer{Bytes: []byte("\x00\x00abc")}}, row{write("/f", 3, "X"), api.Answer{Size: 1}}, row{read(2, 2), api.Answer{Bytes: []byte("aX")}}, row{read(5, 9), api.Answer{}}, row{read(math.MaxInt, math.MaxInt), api.Answer{}}, row{read(4, math.MaxInt), api.Answer{Bytes: []byte("c")}}, row{read(0, 0), api.Answer{}},
		row{read(-1, 0), no(api.ErrArg)}, row{read(0, -1), no(api.ErrArg)}, row{api.Call{Kind: api.CallRead, Path: "/d", At: -1}, no(api.ErrArg)}, row{api.Call{Kind: api.CallRead, Path: "/d"}, no(api.ErrIsDir)},
		row{cut("x", -1), no(api.ErrArg)}, row{cut("x", 65537), no(api.ErrBig)}, row{cut("/d", 0), no(api.ErrIsDir)}, row{cut("/l", 3), api.Answer{}}, row{cut("/f", 6), api.Answer{}}, row{read(0, 99), api.Answer{Bytes: []byte("\x00\x00a\x00\x00\x00")}}, row{cut("/f", 65536), api.Answer{}}, row{write("/f", 65535, "z"), api.Answer{Size: 1}},
		row{call(api.CallStat, "/f"), api.Answer{Inode: 2, Kind: api.InodeFile, Links: 1, Size: 65536}},
	)
	in := []byte("abc")
	m.Do(api.Call{Kind: api.CallWrite, Path: "/f", Bytes: in})
	in[0] = 'z'
	a := m.Do(api.Call{Kind: api.CallRead, Path: "/f", Many: 3})
	a.Bytes[1] = 'z'
	if b := m.Do(api.Call{Kind: api.CallRead, Path: "/f", Many: 3}); string(b.Bytes) != "abc" {
		t.Error("bytes are shared")
	}
}

// P18.2
func TestReaddir(t *testing.T) {
	m := made(t, 32, 32, 1)
	for i := range 9 {
		m.Do(call(api.CallCreate, "/n"+strconv.Itoa(i)))
	}
	m.Do(two(api.CallSymlink, "/here", "/"))
	all := m.Do(api.Call{Kind: api.CallReaddir, Path: "/here", Many: 99})
	if len(all.Names) != 10 || all.Key != all.Names[9].Key+1 || !slices.IsSortedFunc(all.Names, func(a, b api.Named) int { return int(a.Key) - int(b.Key) }) {
		t.Error(all)
	}
	part := m.Do(api.Call{Kind: api.CallReaddir, Path: "/", Key: all.Names[3].Key, Many: 2})
	if !slices.Equal(part.Names, all.Names[3:5]) || part.Key != all.Names[4].Key+1 {
		t.Error(part)
	}
	part = m.Do(api.Call{Kind: api.CallReaddir, Path: "/", Key: all.Names[3].Key + 1, Many: 1})
	if part.Names[0] != all.Names[4] {
		t.Error(part)
	}
	play(t, m,
		row{api.Call{Kind: api.CallReaddir, Path: "/", Key: math.MaxUint64, Many: 5}, api.Answer{Key: math.MaxUint64}}, row{api.Call{Kind: api.CallReaddir, Path: "x"}, no(api.ErrArg)}, row{api.Call{Kind: api.CallReaddir, Path: "/n1", Many: 1}, no(api.ErrNotDir)}, row{api.Call{Kind: api.CallReaddir, Path: "/q", Many: 1}, no(api.ErrNoEnt)},
	)
	// The least number that is free, of a sum.
	l := lay(t, 32, 32, 1)
	for _, n := range all.Names {
		sum, _ := record.Sum(l, n.Name)
		if s, _ := record.Split(n.Key); s != sum {
			t.Error(n)
		}
	}
	first := all.Names[0]
	m.Do(call(api.CallUnlink, "/"+first.Name))
	m.Do(call(api.CallCreate, "/"+first.Name))
	again := m.Do(api.Call{Kind: api.CallReaddir, Path: "/", Many: 1})
	if again.Names[0] != first {
		t.Error(again, first)
	}
	// A name that moves gets its key while the old one is there yet; a name that is there keeps it.
	m = made(t, 32, 32, 1)
	m.Do(call(api.CallCreate, "/a"))
	was := m.State()[0].Names[0]
	m.Do(two(api.CallRename, "/a", "/c"))
	now := m.State()[0].Names[0]
	a, _ := record.Sum(l, "a")
	c, _ := record.Sum(l, "c")
	if _, n := record.Split(now.Key); a == c && n != 1 || a != c && n != 0 || now.Inode != was.Inode {
		t.Error(was, now)
	}
}

func thing(inode int, kind api.InodeKind, links int) api.Thing {
	return api.Thing{Inode: inode, Kind: kind, Links: links}
}

// P18.1
func TestOf(t *testing.T) {
	l := lay(t, 8, 4, 8)
	key := func(name string, nth int) uint64 {
		k, _ := record.Key(l, name, nth)
		return k
	}
	name := func(n string, inode int) api.Named { return api.Named{Key: key(n, 0), Name: n, Inode: inode} }
	dirOf := func(inode, parent int, names ...api.Named) api.Thing {
		slices.SortFunc(names, func(a, b api.Named) int { return int(a.Key) - int(b.Key) })
		return api.Thing{Inode: inode, Kind: api.InodeDir, Links: 1, Parent: parent, Names: names}
	}
	file := thing(2, api.InodeFile, 1)
	link := api.Thing{Inode: 2, Kind: api.InodeLink, Links: 1, Target: "x"}
	with := func(t api.Thing, f func(*api.Thing)) api.Thing {
		f(&t)
		return t
	}
	for i, things := range [][]api.Thing{
		{dirOf(1, 1)}, {dirOf(1, 1, name("a", 2), name("b", 2), name("c", 2), name("d", 2)), thing(2, api.InodeFile, 4)}, {dirOf(1, 1, name("a", 2)), with(link, func(t *api.Thing) { t.Target = strings.Repeat("x", 112) })}, {dirOf(1, 1, name("a", 2)), file}, {dirOf(1, 1, name("a", 2)), link}, {dirOf(1, 1, name("a", 2), name("b", 2)), thing(2, api.InodeFile, 2)},
		{dirOf(1, 1, name("a", 7)), dirOf(7, 1)}, {dirOf(1, 1, api.Named{Key: key("a", 65535), Name: "a", Inode: 2}), file}, {dirOf(1, 1, name("a", 2)), with(file, func(t *api.Thing) { t.Bytes = make([]byte, 65536) })},
	} {
		m, e := model.Of(l, things...)
		if e != api.OK || len(m.State()) != len(things) {
			t.Error(i, e)
		}
	}
	root := dirOf(1, 1, name("a", 2))
	for i, things := range [][]api.Thing{
		nil, {dirOf(1, 1), thing(2, api.InodeFile, 0)}, {dirOf(1, 1), thing(2, api.InodeNone, 0)}, {file}, {dirOf(1, 2)}, {with(dirOf(1, 1), func(t *api.Thing) { t.Links = 2 })}, {with(dirOf(1, 1), func(t *api.Thing) { t.Bytes = []byte{1} })}, {with(dirOf(1, 1), func(t *api.Thing) { t.Target = "x" })},
		{root}, {dirOf(1, 1), file}, {root, file, file}, {file, root}, {root, thing(2, api.InodeFile, 2)}, {root, thing(2, api.InodeFile, 0)}, {root, thing(2, 4, 1)}, {root, thing(2, api.InodeNone, 1)}, {root, {Inode: 2}}, {root, file, {Inode: 9}},
		{root, with(file, func(t *api.Thing) { t.Bytes = make([]byte, 65537) })}, {root, with(file, func(t *api.Thing) { t.Parent = 1 })}, {root, with(file, func(t *api.Thing) { t.Target = "x" })}, {root, with(file, func(t *api.Thing) { t.Names = root.Names })},
		{root, thing(2, api.InodeLink, 1)}, {root, with(link, func(t *api.Thing) { t.Target = "\x00" })}, {root, with(link, func(t *api.Thing) { t.Target = strings.Repeat("x", 113) })}, {root, with(link, func(t *api.Thing) { t.Bytes = []byte("x") })},
		{root, dirOf(2, 2)}, {root, with(dirOf(2, 1), func(t *api.Thing) { t.Links = 0 })}, {dirOf(1, 1, name("a", 2), name("b", 2)), with(dirOf(2, 1), func(t *api.Thing) { t.Links = 2 })},
		{dirOf(1, 1), dirOf(2, 3, name("a", 3)), dirOf(3, 2, name("a", 2))}, {dirOf(1, 1), dirOf(2, 2, name("a", 2))}, {dirOf(1, 1, name("a", 1))}, {dirOf(1, 1, name("a", 9))}, {dirOf(1, 1, name("a", 0))}, {dirOf(1, 1, name("a", -1))},
		{dirOf(1, 1, api.Named{Key: key("a", 0) ^ 1<<20, Name: "a", Inode: 2}), file}, {dirOf(1, 1, api.Named{Key: 5, Name: "a/", Inode: 2}), file}, {dirOf(1, 1, name("a", 2), api.Named{Key: key("a", 1), Name: "a", Inode: 2}), thing(2, api.InodeFile, 2)},
		{{Inode: 1, Kind: api.InodeDir, Links: 1, Parent: 1, Names: []api.Named{{Key: key("a", 1), Name: "a", Inode: 2}, {Key: key("a", 0), Name: "a", Inode: 2}}}, thing(2, api.InodeFile, 2)},
		{dirOf(1, 1, name("a", 2), name("b", 2), name("c", 2), name("d", 2), name("e", 2)), thing(2, api.InodeFile, 5)},
	} {
		if m, e := model.Of(l, things...); m != nil || e != api.ErrState {
			t.Error(i, e, things)
		}
	}
	bad := l
	bad.Data++
	if m, e := model.New(bad); m != nil || e != api.ErrArg {
		t.Error(e)
	}
	if m, e := model.Of(bad, file); m != nil || e != api.ErrArg {
		t.Error(e)
	}
}

// P18.1: names of one sum.
func TestOfKeys(t *testing.T) {
	l := lay(t, 8, 8, 1)
	zero, _ := record.Sum(l, "a")
	other := ""
	for i := 0; other == ""; i++ {
		if s, _ := record.Sum(l, strconv.Itoa(i)); s == zero {
			other = strconv.Itoa(i)
		}
	}
	of := func(a, b int) api.Errno {
		x, _ := record.Key(l, "a", a)
		y, _ := record.Key(l, other, b)
		_, e := model.Of(l, api.Thing{Inode: 1, Kind: api.InodeDir, Links: 1, Parent: 1, Names: []api.Named{{Key: x, Name: "a", Inode: 2}, {Key: y, Name: other, Inode: 2}}}, thing(2, api.InodeFile, 2))
		return e
	}
	if of(0, 1) != api.OK || of(1, 0) != api.ErrState || of(3, 3) != api.ErrState || of(7, 65535) != api.OK {
		t.Error(of(0, 1), of(1, 0), of(3, 3), of(7, 65535))
	}
}

// P18.3: part by part; what is told, and what was handed in, is not the model's.
func TestSamePartByPart(t *testing.T) {
	l := lay(t, 8, 8, 8)
	build := func(target, b string) *model.Model {
		m, _ := model.New(l)
		m.Do(two(api.CallSymlink, "/l", target))
		m.Do(call(api.CallCreate, "/f"))
		m.Do(api.Call{Kind: api.CallWrite, Path: "/f", Bytes: []byte(b)})
		return m
	}
	m := build("x", "abc")
	if !model.Same(m, build("x", "abc")) || model.Same(m, build("y", "abc")) || model.Same(m, build("x", "abd")) || model.Same(m, build("x", "ab")) {
		t.Error("same")
	}
	dirs := func(dir string) *model.Model {
		m, _ := model.New(l)
		m.Do(call(api.CallMkdir, "/a"))
		m.Do(call(api.CallMkdir, "/b"))
		m.Do(call(api.CallMkdir, dir+"/c"))
		return m
	}
	if model.Same(dirs("/a"), dirs("/b")) || !model.Same(dirs("/a"), dirs("/a")) {
		t.Error("same")
	}
	things := m.State()
	back, _ := model.Of(l, things...)
	for _, x := range things {
		for i := range x.Bytes {
			x.Bytes[i] = 'z'
		}
		for i := range x.Names {
			x.Names[i].Name = "z"
		}
	}
	if !model.Same(m, back) || !model.Same(m, build("x", "abc")) {
		t.Error("things are shared")
	}
}

// P18.3
func TestCopySameNone(t *testing.T) {
	m := made(t, 8, 16, 8)
	c := m.Copy()
	c.Do(call(api.CallCreate, "/f"))
	if model.Same(m, c) || len(m.State()) != 1 || len(c.State()) != 2 {
		t.Error("a copy does not go on apart")
	}
	c.Do(call(api.CallUnlink, "/f"))
	if !model.Same(m, c) || model.Same(m, made(t, 8, 16, 9)) || model.Same(m, nil) || model.Same(nil, m) || !model.Same(nil, nil) {
		t.Error("same")
	}
	for _, none := range []*model.Model{nil, {}} {
		i, r := none.Spare()
		if len(none.State()) > 0 || none.Copy() != nil || i != 0 || r != 0 || !model.SameAnswer(none.Do(call(99, "")), no(api.ErrNil)) || !model.Same(none, nil) {
			t.Error("none")
		}
	}
	a := api.Answer{Errno: 1, Inode: 2, Kind: 3, Links: 4, Size: 5, Bytes: []byte{6}, Text: "7", Names: []api.Named{{Key: 8}}, Key: 9}
	others := []func(*api.Answer){func(a *api.Answer) { a.Errno = 0 }, func(a *api.Answer) { a.Inode = 0 }, func(a *api.Answer) { a.Kind = 0 }, func(a *api.Answer) { a.Links = 0 }, func(a *api.Answer) { a.Size = 0 }, func(a *api.Answer) { a.Bytes = nil }, func(a *api.Answer) { a.Text = "" }, func(a *api.Answer) { a.Names = []api.Named{{}} }, func(a *api.Answer) { a.Key = 0 }}
	for i, f := range others {
		b := a
		f(&b)
		if model.SameAnswer(a, b) || !model.SameAnswer(b, b) {
			t.Error(i)
		}
	}
	if !model.SameAnswer(api.Answer{Bytes: []byte{}}, api.Answer{}) {
		t.Error("no bytes and none")
	}
	for k := api.CallKind(-1); k < 20; k++ {
		want := k >= 1 && k <= 7 || k == 12 || k == 13
		if model.Writes(api.Call{Kind: k}) != want {
			t.Error(k)
		}
	}
}

// P18.4
func TestAnyCalls(t *testing.T) {
	r := rand.New(rand.NewSource(18))
	paths := []string{"/", "/a", "/b", "/a/c", "/a/d", "/a/c/e", "/b/f", "/l", "/l/x", "/a/c/../d", "x", "/b/.", "/a/c/e/g"}
	for range 40 {
		bits := 1 + r.Intn(4)
		m, l := made(t, 8, 12, bits), lay(t, 8, 12, bits)
		for range 150 {
			c := api.Call{Kind: api.CallKind(r.Intn(16)), Path: paths[r.Intn(len(paths))], To: paths[r.Intn(len(paths))], At: r.Intn(40) - 1, Many: r.Intn(9) - 1, Bytes: bytes.Repeat([]byte{7}, r.Intn(4))}
			was := m.Copy()
			a := m.Do(c)
			if (a.Errno != api.OK || !model.Writes(c)) && !model.Same(was, m) {
				t.Fatal(c, a)
			}
			if a.Errno != api.OK && !model.SameAnswer(a, no(a.Errno)) {
				t.Fatal(c, a)
			}
			things := m.State()
			back, e := model.Of(l, things...)
			if e != api.OK || !model.Same(back, m) {
				t.Fatal(c, a, e)
			}
			if a.Errno == api.OK && c.Kind == api.CallWrite && len(c.Bytes) > 0 {
				if got := m.Do(api.Call{Kind: api.CallRead, Path: c.Path, At: c.At, Many: len(c.Bytes)}); !bytes.Equal(got.Bytes, c.Bytes) {
					t.Fatal(c, got)
				}
			}
			if a.Errno == api.OK && (c.Kind == api.CallUnlink || c.Kind == api.CallRmdir) {
				if got := m.Do(call(api.CallReadlink, c.Path)); got.Errno != api.ErrNoEnt {
					t.Fatal(c, got)
				}
			}
		}
	}
}
