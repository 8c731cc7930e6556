package dir_test

import (
	"math"
	"math/rand"
	"slices"
	"strconv"
	"strings"
	"testing"

	"hedgerow/api"
	"hedgerow/dir"
	"hedgerow/layout"
	"hedgerow/node"
	"hedgerow/record"
	"hedgerow/tree"
)

const place = 578

// device is words of a layout, with a directory of no names at a place.
func device(t *testing.T, records, bits int) ([]uint64, api.Layout) {
	t.Helper()
	l, e := layout.Of(api.Form{Blocks: 64, Inodes: 8, Records: records, Bits: bits}, [2]uint64{3, 4})
	if e != api.OK {
		t.Fatal(e)
	}
	words := make([]uint64, 64*l.Form.Blocks)
	leaf, _ := node.Make(api.Node{Left: api.NodeLeaf})
	copy(words[64*l.Data:], leaf)
	words[place] = uint64(l.Data)
	return words, l
}

func store(words []uint64, l []api.Put) []uint64 {
	out := slices.Clone(words)
	for _, p := range l {
		out[p.At] = p.Value
	}
	return out
}

// write lets a record stand.
func write(t *testing.T, words []uint64, l api.Layout, n, inode int, name string) []uint64 {
	t.Helper()
	at, _ := layout.Record(l, n)
	s, e := record.Stores(at, api.Record{Inode: inode, Name: name})
	if e != api.OK {
		t.Fatal(e)
	}
	return store(words, s)
}

// with is a directory that has names, too, by records from one on.
func with(t *testing.T, words []uint64, l api.Layout, from int, names ...string) []uint64 {
	t.Helper()
	for i, name := range names {
		words = write(t, words, l, from+i, 2+i, name)
		s, _, e := dir.Put(words, l, place, name, from+i)
		if e != api.OK {
			t.Fatal(name, e)
		}
		words = store(words, s)
	}
	return words
}

func called(l []api.Entry) []string {
	var out []string
	for _, x := range l {
		out = append(out, x.Name)
	}
	return out
}

// P16.1
func TestReading(t *testing.T) {
	words, l := device(t, 16, 8)
	if x, is, e := dir.Find(words, l, place, "a"); x != (api.Entry{}) || is || e != api.OK {
		t.Error(x, is, e)
	}
	sum, _ := record.Sum(l, "a")
	if k, e := dir.Room(words, l, place, "a"); k != 65536*sum || e != api.OK {
		t.Error(k, e)
	}
	words = with(t, words, l, 5, "a", "b", "c")
	all, e := dir.List(words, l, place)
	if e != api.OK || len(all) != 3 {
		t.Fatal(all, e)
	}
	for i, x := range all {
		want := api.Entry{Record: 5 + int(x.Name[0]-'a'), Inode: 2 + int(x.Name[0]-'a'), Name: x.Name}
		want.Key, _ = record.Key(l, x.Name, 0)
		if x != want || i > 0 && x.Key <= all[i-1].Key {
			t.Error(x, want)
		}
		if y, is, e := dir.Find(words, l, place, x.Name); y != x || !is || e != api.OK {
			t.Error(y, is, e)
		}
	}
	if got := slices.Collect(dir.From(words, l, place, all[1].Key)); !slices.Equal(got, all[1:]) {
		t.Error(got)
	}
	seq := dir.From(words, l, place, all[0].Key+1)
	for range 2 {
		if got := slices.Collect(seq); !slices.Equal(got, all[1:]) {
			t.Error(got)
		}
	}
	for x := range seq {
		if x != all[1] {
			t.Error(x)
		}
		break
	}
	if k, e := dir.Room(words, l, place, "a"); k != 0 || e != api.ErrTwice {
		t.Error(k, e)
	}
}

// P16.1, P16.2
func TestErrors(t *testing.T) {
	words, l := device(t, 16, 8)
	words = with(t, words, l, 5, "a", "b")
	bad := l
	bad.Data++
	far, _ := layout.Record(l, 6)
	no := func(at int, v uint64) []uint64 { return store(words, []api.Put{{At: at, Value: v}}) }
	root := 64 * int(words[place])
	for i, c := range []struct {
		words []uint64
		l     api.Layout
		at    int
		name  string
		e     api.Errno
	}{
		{words, bad, place, "", api.ErrArg}, {words[:64], l, place, "", api.ErrArg}, {words, l, -1, "", api.ErrArg}, {words, l, len(words), "", api.ErrArg}, {words, l, math.MaxInt, "a", api.ErrArg}, {nil, api.Layout{}, 0, "a", api.ErrArg},
		{words, l, place + 1, "a", api.ErrTree}, {no(far, 0), l, place, "c", api.ErrDir}, {no(far+1, 'x'), l, place, "c", api.ErrDir}, {no(root+9, 17), l, place, "c", api.ErrDir}, {no(root+9, 1<<40), l, place, "c", api.ErrDir},
		{no(root+8, 1), l, place, "c", api.ErrDir},
	} {
		if all, e := dir.List(c.words, c.l, c.at); len(all) > 0 || e != c.e {
			t.Error(i, all, e)
		}
		for range dir.From(c.words, c.l, c.at, 0) {
			t.Error(i)
		}
		if x, is, e := dir.Find(c.words, c.l, c.at, c.name); x != (api.Entry{}) || is || e != c.e {
			t.Error(i, x, is, e)
		}
		if k, e := dir.Room(c.words, c.l, c.at, c.name); k != 0 || e != c.e {
			t.Error(i, k, e)
		}
		if s, n, e := dir.Put(c.words, c.l, c.at, "c", 1, 40); len(s) > 0 || n != 0 || e != c.e {
			t.Error(i, s, n, e)
		}
		if x, s, n, old, e := dir.Take(c.words, c.l, c.at, "c", 40); x != (api.Entry{}) || len(s) > 0 || n != 0 || len(old) > 0 || e != c.e {
			t.Error(i, s, n, e)
		}
		if x, s, e := dir.Swap(c.words, c.l, c.at, "c", 1); x != (api.Entry{}) || len(s) > 0 || e != c.e {
			t.Error(i, s, e)
		}
	}
	for i, c := range []struct {
		name   string
		record int
		free   []int
		e      api.Errno
		swap   api.Errno
	}{
		{"a", 0, nil, api.ErrArg, api.ErrArg}, {"a", 17, nil, api.ErrArg, api.ErrArg}, {"", 0, nil, api.ErrArg, api.ErrArg}, {"a/b", 1, nil, api.ErrName, api.ErrName}, {strings.Repeat("x", 121), 1, nil, api.ErrWide, api.ErrWide},
		{"a", 5, []int{0}, api.ErrTwice, api.ErrArg}, {"c", 5, []int{0}, api.ErrArg, api.ErrNone}, {"c", 1, []int{0}, api.ErrArg, api.ErrNone}, {"c", 1, []int{root / 64}, api.ErrArg, api.ErrNone}, {"a", 6, nil, api.ErrTwice, api.ErrArg}, {"a", 16, nil, api.ErrTwice, api.OK},
	} {
		if s, _, e := dir.Put(words, l, place, c.name, c.record, c.free...); e != c.e || len(s) > 0 {
			t.Error(i, s, e)
		}
		if _, s, e := dir.Swap(words, l, place, c.name, c.record); e != c.swap || (len(s) == 0) == (e == api.OK) {
			t.Error(i, s, e)
		}
	}
	if _, _, _, _, e := dir.Take(words, l, place, "c", 0); e != api.ErrNone {
		t.Error(e)
	}
	if _, _, _, _, e := dir.Take(words, l, place, "a", 0); e != api.ErrArg {
		t.Error(e)
	}
	if _, _, _, _, e := dir.Take(words, l, place, "..", 0); e != api.ErrName {
		t.Error(e)
	}
	if _, e := dir.Room(words, l, place, "."); e != api.ErrName {
		t.Error(e)
	}
	// A name that may not be is told ahead of what does not read.
	if _, _, e := dir.Find(words, l, place+1, ".."); e != api.ErrName {
		t.Error(e)
	}
	if _, e := dir.Room(words, l, place+1, "a/"); e != api.ErrName {
		t.Error(e)
	}
	if _, _, e := dir.Put(words, l, place+1, "", 1); e != api.ErrName {
		t.Error(e)
	}
	if _, _, _, _, e := dir.Take(words, l, place+1, ""); e != api.ErrName {
		t.Error(e)
	}
	if _, _, e := dir.Swap(words, l, place+1, strings.Repeat("x", 121), 1); e != api.ErrWide {
		t.Error(e)
	}
	half := no(root+13, words[root+11])
	if _, _, _, _, e := dir.Take(half, l, place, "a"); e != api.ErrTree {
		t.Error(e)
	}
	if _, e := dir.List(half, l, place); e != api.OK {
		t.Error(e)
	}
}

// P16.2: a record that an entry in another leaf has.
func TestRecordTaken(t *testing.T) {
	words, l := device(t, 60, 40)
	var names []string
	for i := range 40 {
		names = append(names, "n"+strconv.Itoa(i))
	}
	for i, name := range names {
		words = write(t, words, l, 1+i, 2, name)
		s, _, e := dir.Put(words, l, place, name, 1+i, freeOf(words, []int{30, 31, 32, 33, 34, 35})...)
		if e != api.OK {
			t.Fatal(e)
		}
		words = store(words, s)
	}
	for n := 1; n <= 40; n++ {
		if _, _, e := dir.Put(words, l, place, "new", n, 40, 41); e != api.ErrArg {
			t.Error(n, e)
		}
		if _, _, e := dir.Swap(words, l, place, names[n%40], n); e != api.ErrArg {
			t.Error(n, e)
		}
	}
}

// P16.1: a name twice, of the same sum under other numbers.
func TestNameTwice(t *testing.T) {
	words, l := device(t, 16, 1)
	words = write(t, words, l, 1, 2, "a")
	words = write(t, words, l, 2, 2, "a")
	zero, _ := record.Key(l, "a", 0)
	one, _ := record.Key(l, "a", 1)
	for _, ptr := range []uint64{1, 2} {
		root := 20
		_, s, _, e := tree.Build([]api.Pair{{Key: zero, Ptr: 1}, {Key: one, Ptr: 3 - ptr}}[:ptr], root)
		if e != api.OK {
			continue
		}
		now := store(words, append(s, api.Put{At: place, Value: uint64(root)}))
		_, e = dir.List(now, l, place)
		if ptr == 1 && e != api.OK {
			t.Error(e)
		}
	}
	_, s, _, e := tree.Build([]api.Pair{{Key: zero, Ptr: 1}, {Key: one, Ptr: 2}}, 20)
	if e != api.OK {
		t.Fatal(e)
	}
	if _, e := dir.List(store(words, append(s, api.Put{At: place, Value: 20})), l, place); e != api.ErrDir {
		t.Error(e)
	}
}

// P16.2, P16.4: names of few sums get the least numbers that are free.
func TestKeysStay(t *testing.T) {
	words, l := device(t, 60, 1)
	free := []int{}
	for b := l.Data + 1; b < l.Form.Blocks; b++ {
		free = append(free, b)
	}
	r := rand.New(rand.NewSource(16))
	was := map[string]api.Entry{}
	unused := []int{}
	for n := 1; n <= 60; n++ {
		unused = append(unused, n)
	}
	for range 500 {
		name := "n" + strconv.Itoa(r.Intn(50))
		words = write(t, words, l, unused[0], 1+r.Intn(8), name)
		before, _ := dir.List(words, l, place)
		var s []api.Put
		var e api.Errno
		var x api.Entry
		switch old, is := was[name]; {
		case !is:
			key, f := dir.Room(words, l, place, name)
			s, _, e = dir.Put(words, l, place, name, unused[0], freeOf(words, free)...)
			if f != api.OK || e != api.OK || key != least(t, l, before, name) {
				t.Fatal(e, f)
			}
			unused = unused[1:]
		case r.Intn(2) == 0:
			x, s, _, _, e = dir.Take(words, l, place, name, freeOf(words, free)...)
			unused = append(unused, old.Record)
		default:
			x, s, e = dir.Swap(words, l, place, name, unused[0])
			unused = append(unused[1:], old.Record)
		}
		if e != api.OK || x != was[name] {
			t.Fatal(name, x, was[name], e)
		}
		checkBetween(t, words, l, s)
		words = store(words, s)
		all, _ := dir.List(words, l, place)
		for _, y := range all {
			if z, is := was[y.Name]; is && z.Key != y.Key && y.Name != name {
				t.Fatal("a key changed", y, z)
			} else if is && y.Name == name && y.Key != x.Key {
				t.Fatal("a swapped key changed")
			}
		}
		clear(was)
		for _, y := range all {
			was[y.Name] = y
		}
	}
}

func freeOf(words []uint64, free []int) []int {
	mine, _ := tree.Blocks(words, place)
	return slices.DeleteFunc(slices.Clone(free), func(b int) bool { return slices.Contains(mine, b) })
}

func least(t *testing.T, l api.Layout, all []api.Entry, name string) uint64 {
	t.Helper()
	for nth := 0; ; nth++ {
		key, e := record.Key(l, name, nth)
		if e != api.OK {
			t.Fatal(e)
		}
		if !slices.ContainsFunc(all, func(x api.Entry) bool { return x.Key == key }) {
			return key
		}
	}
}

// P16.3
func checkBetween(t *testing.T, words []uint64, l api.Layout, s []api.Put) {
	t.Helper()
	was, _ := dir.List(words, l, place)
	will, _ := dir.List(store(words, s), l, place)
	for n := range len(s) + 1 {
		if n%5 != 0 && n < len(s)-12 {
			continue
		}
		now, e := dir.List(store(words, s[:n]), l, place)
		if e != api.OK || !slices.Equal(now, was) && !slices.Equal(now, will) {
			t.Fatal(n, e, called(now))
		}
	}
}
