package deed_test

import (
	"bytes"
	"math"
	"math/rand"
	"slices"
	"strconv"
	"testing"

	"hedgerow/api"
	"hedgerow/deed"
	"hedgerow/dir"
	"hedgerow/image"
	"hedgerow/inode"
	"hedgerow/layout"
	"hedgerow/model"
	"hedgerow/record"
	"hedgerow/space"
	"hedgerow/tree"
)

func lay(t *testing.T, blocks, inodes, records, bits int) api.Layout {
	t.Helper()
	l, e := layout.Of(api.Form{Blocks: blocks, Inodes: inodes, Records: records, Bits: bits}, [2]uint64{1, 2})
	if e != api.OK {
		t.Fatal(e)
	}
	return l
}

func device(t *testing.T, l api.Layout) []uint64 {
	t.Helper()
	m, _ := model.New(l)
	w, e := image.Lay(l, m.State()...)
	if e != api.OK {
		t.Fatal(e)
	}
	return w
}

func apply(words []uint64, l []api.Put) []uint64 {
	out := slices.Clone(words)
	for _, p := range l {
		out[p.At] = p.Value
	}
	return out
}

// behind is words behind calls that go.
func behind(t *testing.T, words []uint64, calls ...api.Call) []uint64 {
	t.Helper()
	for _, c := range calls {
		a, l := deed.Do(words, 0, c)
		if a.Errno != api.OK {
			t.Fatal(c, a)
		}
		words = apply(words, l)
	}
	return words
}

func at(l api.Layout, n int) int {
	w, _ := layout.Inode(l, n)
	return w
}

func call(k api.CallKind, path string) api.Call { return api.Call{Kind: k, Path: path} }

func two(k api.CallKind, path, to string) api.Call { return api.Call{Kind: k, Path: path, To: to} }

func write(path string, from int, b string) api.Call {
	return api.Call{Kind: api.CallWrite, Path: path, At: from, Bytes: []byte(b)}
}

// data are the stores but those of the map.
func data(l api.Layout, puts []api.Put) []api.Put {
	return slices.DeleteFunc(slices.Clone(puts), func(p api.Put) bool { return p.At/64 == l.Map })
}

// P23.1
func TestExamples(t *testing.T) {
	l := lay(t, 40, 8, 16, 8)
	words := device(t, l)
	if a, s := deed.Do(words, 0, call(api.CallLookup, "/a")); !model.SameAnswer(a, api.Answer{Errno: api.ErrNoEnt}) || len(s) > 0 {
		t.Error(a, s)
	}
	a, s := deed.Do(words, 0, call(api.CallCreate, "/a"))
	key, _ := record.Key(l, "a", 0)
	var want []api.Put
	want = append(want, api.Put{At: at(l, 2), Value: 257})
	rec, _ := layout.Record(l, 1)
	stores, _ := record.Stores(rec, api.Record{Inode: 2, Name: "a"})
	want = append(want, stores...)
	root := 64 * l.Data
	want = append(want, api.Put{At: root + 4, Value: 1}, api.Put{At: root + 11}, api.Put{At: root + 9, Value: api.NodeLeaf}, api.Put{At: root + 8, Value: key}, api.Put{At: root + 9, Value: 1})
	if a.Errno != api.OK || a.Inode != 2 || !slices.Equal(s, want) {
		t.Error(a, s, want)
	}
	now := apply(words, s)
	seq := deed.Each(now, 0, call(api.CallMkdir, "/d"))
	a, s = deed.Do(now, 0, call(api.CallMkdir, "/d"))
	for range 2 {
		n := 0
		for i, p := range seq {
			if i != n || p != s[i] {
				t.Error(i, p)
			}
			n++
		}
		if n != len(s) {
			t.Error(n)
		}
	}
	for i := range seq {
		if i > 0 {
			t.Error(i)
		}
		break
	}
	if s[0] != (api.Put{At: root + 64, Value: api.NodeMark}) || s[63].At != root+127 || s[64] != (api.Put{At: at(l, 3), Value: 258}) || s[65] != (api.Put{At: at(l, 3) + 2, Value: uint64(l.Data + 1)}) || s[66] != (api.Put{At: at(l, 3) + 3, Value: 1}) || s[len(s)-1] != (api.Put{At: l.Map * 64, Value: 1<<(l.Data+2) - 1}) {
		t.Error(s)
	}
	for range deed.Each(now, 0, call(api.CallMkdir, "/a")) {
		t.Error("stores of what is refused")
	}
}

// P23.2
func TestWholeAndSpare(t *testing.T) {
	l := lay(t, 60, 16, 64, 8)
	words := behind(t, device(t, l), call(api.CallMkdir, "/a"), call(api.CallCreate, "/f"))
	if deed.Whole(words) != api.OK {
		t.Error("not whole")
	}
	spare, e := deed.Spare(words)
	x, _ := image.View(words)
	free, _ := space.Free(x)
	if e != api.OK || len(spare) != len(free)-5 || !slices.Equal(spare, free[:len(spare)]) {
		t.Error(spare, free, e)
	}
	no := func(p ...api.Put) []uint64 { return apply(words, p) }
	leaf := 64 * l.Data
	for i, c := range []struct {
		words []uint64
		e     api.Errno
	}{
		{nil, api.ErrSuper}, {no(api.Put{At: at(l, 1)}), api.ErrImage}, {no(api.Put{At: leaf + 13, Value: words[leaf+11]}), api.ErrTree}, {no(api.Put{At: 64, Value: 5}), api.ErrJournal}, {no(api.Put{At: leaf + 13, Value: words[leaf+11]}, api.Put{At: 64, Value: 5}), api.ErrTree}, {no(api.Put{At: 64 * 8, Value: 1}), api.ErrJournal},
	} {
		if c.e == api.ErrTree {
			if e := tree.Check(c.words, at(l, 1)+2); e != api.ErrTree {
				t.Fatal("the test's own words", e)
			}
		}
		if e := deed.Whole(c.words); e != c.e {
			t.Error(i, e)
		}
		if s, e := deed.Spare(c.words); len(s) > 0 || e != c.e {
			t.Error(i, e)
		}
		if a, s := deed.Do(c.words, 9, call(api.CallCreate, "/")); !model.SameAnswer(a, api.Answer{Errno: c.e}) || len(s) > 0 {
			t.Error(i, a)
		}
	}
	for _, client := range []int{-1, 8, math.MaxInt} {
		if a, s := deed.Do(words, client, call(api.CallCreate, "/")); a.Errno != api.ErrArg || len(s) > 0 {
			t.Error(client, a)
		}
	}
	for _, records := range []int{4, 20, 36, 40, 72, 400, 684, 688, 1024} {
		l := lay(t, 2048, 4, records, 8)
		s, _ := deed.Spare(device(t, l))
		var pairs []api.Pair
		for i := range records {
			pairs = append(pairs, api.Pair{Key: uint64(i), Ptr: uint64(i + 1)})
		}
		var blocks []int
		for b := 1; b < 200; b++ {
			blocks = append(blocks, b)
		}
		_, _, used, _ := tree.Build(pairs, blocks...)
		if len(s) != 2048-l.Data-1-used {
			t.Error(records, len(s), used)
		}
	}
}

// P23.1: what the calls on names store.
func TestNames(t *testing.T) {
	l := lay(t, 60, 16, 64, 8)
	words := behind(t, device(t, l), call(api.CallMkdir, "/d"), call(api.CallCreate, "/f"))
	rec := func(n int) int { w, _ := layout.Record(l, n); return w }
	_, s := deed.Do(words, 3, two(api.CallLink, "/f", "/d/g"))
	if s[15].At != rec(3) || s[len(s)-1] != (api.Put{At: at(l, 3), Value: 1 | 2<<8}) {
		t.Error(s)
	}
	linked := apply(words, s)
	_, s = deed.Do(linked, 3, call(api.CallUnlink, "/f"))
	if n := len(s); s[n-2] != (api.Put{At: rec(2)}) || s[n-1] != (api.Put{At: at(l, 3), Value: 257}) {
		t.Error(s)
	}
	_, s = deed.Do(words, 3, call(api.CallRmdir, "/d"))
	if n := len(s); s[n-3] != (api.Put{At: rec(1)}) || s[n-2] != (api.Put{At: at(l, 2)}) || s[n-1].At/64 != l.Map {
		t.Error(s)
	}
	_, s = deed.Do(linked, 3, two(api.CallRename, "/f", "/d/h"))
	if s[15] != (api.Put{At: rec(4), Value: 3 | 1<<16}) || s[16].At != 64*4+1 || s[24] != (api.Put{At: 64 * 4, Value: 1794}) {
		t.Error(s)
	}
	if n := len(s); s[n-2] != (api.Put{At: 64 * 4}) || s[n-1] != (api.Put{At: rec(2)}) {
		t.Error(s[n-2:])
	}
	other := behind(t, linked, call(api.CallCreate, "/d/x"))
	_, s = deed.Do(other, 0, two(api.CallRename, "/f", "/d/x"))
	if n := len(s); s[n-3] != (api.Put{At: rec(2)}) || s[n-2] != (api.Put{At: rec(4)}) || s[n-1] != (api.Put{At: at(l, 4)}) {
		t.Error(s[n-3:])
	}
	_, s = deed.Do(other, 0, two(api.CallRename, "/f", "/f"))
	if len(s) > 0 {
		t.Error(s)
	}
	for _, c := range []api.Call{write("/f", 0, ""), {Kind: api.CallTruncate, Path: "/f"}, call(api.CallStat, "/f"), {Kind: 77}} {
		if _, s := deed.Do(other, 0, c); len(s) > 0 {
			t.Error(c, s)
		}
	}
}

// P23.1: what the calls on bytes store.
func TestBytes(t *testing.T) {
	l := lay(t, 60, 16, 64, 8)
	words := behind(t, device(t, l), call(api.CallCreate, "/f"))
	big := string(bytes.Repeat([]byte("abc"), 300))
	_, s := deed.Do(words, 2, write("/f", 0, big))
	d := data(l, s)
	first := 64 * (l.Data + 1)
	if d[0].At != first || d[127].At != first+127 || d[128].At != 64*3+1 {
		t.Error(d[:3])
	}
	file := func(w []uint64) api.Inode {
		n, _ := inode.Of(w[at(l, 2) : at(l, 2)+16])
		return n
	}
	now := apply(words, s)
	if n := file(now); n.Size != 900 || !slices.Equal(n.Map, []api.Extent{{File: 0, Dev: l.Data + 1, Many: 2}}) {
		t.Error(n)
	}
	_, s = deed.Do(now, 2, write("/f", 0, "X"))
	d = data(l, s)
	if d[0].At != 64*(l.Data+3) || d[64].At != 64*3+1 {
		t.Error(d[0], d[64])
	}
	if n := file(apply(now, s)); !slices.Equal(n.Map, []api.Extent{{File: 0, Dev: l.Data + 3, Many: 1}, {File: 1, Dev: l.Data + 2, Many: 1}}) {
		t.Error(n)
	}
	// The same bytes again, and noughts where nothing lies, need no block.
	if _, s := deed.Do(now, 2, write("/f", 0, "abc")); len(s) > 0 {
		t.Error(s)
	}
	_, s = deed.Do(now, 2, api.Call{Kind: api.CallTruncate, Path: "/f", At: 4096})
	if n := file(apply(now, s)); n.Size != 4096 || len(n.Map) != 1 || data(l, s)[0].At != 64*3+1 {
		t.Error(n, s[0])
	}
	// What is behind the end of a cut file becomes noughts.
	_, s = deed.Do(now, 2, api.Call{Kind: api.CallTruncate, Path: "/f", At: 600})
	if n := file(apply(now, s)); n.Size != 600 || !slices.Equal(n.Map, []api.Extent{{File: 0, Dev: l.Data + 1, Many: 1}, {File: 1, Dev: l.Data + 3, Many: 1}}) {
		t.Error(n)
	}
	_, s = deed.Do(now, 2, api.Call{Kind: api.CallTruncate, Path: "/f", At: 512})
	if n := file(apply(now, s)); n.Size != 512 || len(n.Map) != 1 || n.Map[0].Many != 1 {
		t.Error(n)
	}
}

// P23.1: too many extents, and too few blocks.
func TestExtentsAndSpace(t *testing.T) {
	l := lay(t, 100, 8, 16, 8)
	words := behind(t, device(t, l), call(api.CallCreate, "/f"), write("/f", 0, string(bytes.Repeat([]byte("x"), 24*512))))
	for i := range 4 {
		words = behind(t, words, write("/f", 2*i*512, "y"))
	}
	n, _ := inode.Of(words[at(l, 2) : at(l, 2)+16])
	if len(n.Map) != 8 {
		t.Fatal(n.Map)
	}
	words = behind(t, words, write("/f", 2*4*512, "y"))
	_, s := deed.Do(words, 0, write("/f", 2*5*512, "y"))
	anew := 0
	for _, p := range s {
		if p.At/64 >= l.Data {
			anew++
		}
	}
	if anew != 24*64 {
		t.Error(anew)
	}
	words = apply(words, s)
	n, _ = inode.Of(words[at(l, 2) : at(l, 2)+16])
	if len(n.Map) != 1 || n.Map[0].Many != 24 {
		t.Error("the file is not laid anew", n.Map)
	}
	spare, _ := deed.Spare(words)
	if a, s := deed.Do(words, 0, write("/f", 24*512, string(bytes.Repeat([]byte("z"), 512*(len(spare)+1))))); a.Errno != api.ErrSpace || len(s) > 0 || a.Size != 0 {
		t.Error(a)
	}
	if a, _ := deed.Do(words, 0, write("/f", 24*512, string(bytes.Repeat([]byte("z"), 512*len(spare))))); a.Errno != api.OK {
		t.Error(a)
	}
	small := lay(t, 32, 8, 16, 8)
	full := behind(t, device(t, small), call(api.CallCreate, "/f"))
	spare, _ = deed.Spare(full)
	full = behind(t, full, write("/f", 0, string(bytes.Repeat([]byte("z"), 512*len(spare)))))
	if a, s := deed.Do(full, 0, call(api.CallMkdir, "/d")); a.Errno != api.ErrSpace || len(s) > 0 {
		t.Error(a)
	}
	if a, _ := deed.Do(full, 0, call(api.CallCreate, "/d")); a.Errno != api.OK {
		t.Error(a)
	}
}

// P23.1: a file would have more than ten extents, however it lies.
func TestTooManyExtents(t *testing.T) {
	l := lay(t, 90, 64, 64, 40)
	words := device(t, l)
	n := 0
	for ; ; n++ {
		a, s := deed.Do(words, 0, call(api.CallCreate, "/"+strconv.Itoa(n)))
		if a.Errno != api.OK {
			break
		}
		now := apply(words, s)
		a, s = deed.Do(now, 0, write("/"+strconv.Itoa(n), 0, "x"))
		if a.Errno != api.OK {
			break
		}
		words = apply(now, s)
	}
	for i := 0; i < n; i += 2 {
		words = behind(t, words, call(api.CallUnlink, "/"+strconv.Itoa(i)))
	}
	words = behind(t, words, call(api.CallCreate, "/f"))
	spare, _ := deed.Spare(words)
	if len(spare) < 12 {
		t.Fatal("the test's own words", len(spare))
	}
	for blocks, want := range map[int]api.Errno{10: api.OK, 11: api.ErrSpace} {
		a, s := deed.Do(words, 0, write("/f", 0, string(bytes.Repeat([]byte("y"), 512*blocks))))
		if a.Errno != want || (len(s) == 0) != (want != api.OK) {
			t.Error(blocks, a)
		}
	}
}

// P23.1: links are named and moved themselves; ways go up.
func TestLinksAndWays(t *testing.T) {
	l := lay(t, 60, 16, 64, 8)
	words := behind(t, device(t, l), call(api.CallCreate, "/f"), two(api.CallSymlink, "/l", "f"), two(api.CallLink, "/l", "/m"), call(api.CallMkdir, "/d"), call(api.CallCreate, "/d/../x"), two(api.CallRename, "/l", "/d/./n"), write("/m", 0, "abc"))
	for i, c := range []struct {
		c api.Call
		a api.Answer
	}{
		{call(api.CallReadlink, "/m"), api.Answer{Text: "f"}}, {call(api.CallReadlink, "/d/n"), api.Answer{Text: "f"}}, {call(api.CallLookup, "/x"), api.Answer{Inode: 5, Kind: api.InodeFile}}, {call(api.CallStat, "/f"), api.Answer{Inode: 2, Kind: api.InodeFile, Links: 1, Size: 3}},
	} {
		if a, s := deed.Do(words, 0, c.c); !model.SameAnswer(a, c.a) || len(s) > 0 {
			t.Error(i, a)
		}
	}
}

// P23.1: a directory is made in one whose leaf is full.
func TestMkdirSplits(t *testing.T) {
	l := lay(t, 100, 64, 64, 40)
	words := device(t, l)
	for i := range 27 {
		words = behind(t, words, call(api.CallCreate, "/"+strconv.Itoa(i)))
	}
	words = check(t, l, words, 0, call(api.CallMkdir, "/d"), true)
	words = check(t, l, words, 0, call(api.CallCreate, "/d/f"), true)
	if b, _ := tree.Blocks(words, at(l, 1)+2); len(b) != 3 {
		t.Error(b)
	}
}

// P23.1: a leaf is full as a name moves into it.
func TestRenameSplits(t *testing.T) {
	l := lay(t, 100, 64, 64, 40)
	words := behind(t, device(t, l), call(api.CallMkdir, "/d"), call(api.CallCreate, "/f"))
	for i := range 27 {
		words = behind(t, words, call(api.CallCreate, "/d/"+strconv.Itoa(i)))
	}
	for i := range 10 {
		c := two(api.CallRename, "/f", "/d/n"+strconv.Itoa(i))
		check(t, l, words, 1, c, true)
	}
	_, s := deed.Do(words, 1, two(api.CallRename, "/f", "/d/n"))
	now := apply(words, s)
	if b, _ := tree.Blocks(now, at(l, 2)+2); len(b) != 3 {
		t.Error(b)
	}
	i := slices.IndexFunc(s, func(p api.Put) bool { return p.At/64 == 2 })
	mid := apply(words, s[:i])
	if all, e := dir.List(mid, l, at(l, 2)+2); tree.Check(mid, at(l, 2)+2) != api.OK || len(all) != 27 || e != api.OK {
		t.Error("the tree is not settled ahead of the redo")
	}
}

// check does a call, and looks behind each of its stores.
func check(t *testing.T, l api.Layout, words []uint64, client int, c api.Call, all bool) []uint64 {
	t.Helper()
	a, s := deed.Do(words, client, c)
	x, _ := image.View(words)
	m, e := model.Of(l, x.Things...)
	if e != api.OK {
		t.Fatal(e)
	}
	was := m.Copy()
	want := m.Do(c)
	if a.Errno == api.ErrSpace {
		if len(s) > 0 {
			t.Fatal("stores beside an error")
		}
		return words
	}
	if !model.SameAnswer(a, want) {
		t.Fatal(c, a, want)
	}
	now := slices.Clone(words)
	done := false
	for i, p := range s {
		now[p.At] = p.Value
		if !all && i%17 != 0 && i < len(s)-8 || now[64*(1+client)] != 0 {
			continue
		}
		x, e := image.View(now)
		got, f := model.Of(l, x.Things...)
		if e != api.OK || f != api.OK || !model.Same(got, m) && (done || !model.Same(got, was)) {
			t.Fatal(c, i, len(s), e, f)
		}
		done = model.Same(got, m)
	}
	x, _ = image.View(now)
	if got, e := model.Of(l, x.Things...); e != api.OK || !model.Same(got, m) || deed.Whole(now) != api.OK {
		t.Fatal(c, e, deed.Whole(now))
	}
	if s, _ := space.Stores(now, x); len(s) > 0 {
		t.Fatal("the map is another one")
	}
	return now
}

// P23.3, P23.4
func TestAnyCalls(t *testing.T) {
	r := rand.New(rand.NewSource(23))
	for round := range 6 {
		l := lay(t, 60+20*round, 40, 64, 1+7*round)
		words := device(t, l)
		name := func() string { return "/" + strconv.Itoa(r.Intn(30)) }
		path := func() string {
			if r.Intn(2) == 0 {
				return "/" + strconv.Itoa(r.Intn(2)) + name()
			}
			return name()
		}
		for range 250 {
			c := api.Call{Kind: api.CallKind(1 + r.Intn(13)), Path: path(), To: path(), At: r.Intn(4000), Many: 1 + r.Intn(5), Bytes: bytes.Repeat([]byte{byte(r.Intn(5))}, r.Intn(1500))}
			if r.Intn(3) == 0 {
				c.Kind = api.CallCreate
			}
			words = check(t, l, words, r.Intn(8), c, r.Intn(12) == 0)
		}
	}
}
