package space_test

import (
	"math"
	"math/rand"
	"slices"
	"testing"

	"hedgerow/api"
	"hedgerow/layout"
	"hedgerow/model"
	"hedgerow/space"
)

// small is an image of 8 blocks of data, 24 to 31, of which some are used.
func small(t *testing.T, used ...int) api.Image {
	t.Helper()
	l, e := layout.Of(api.Form{Blocks: 32, Inodes: 8, Records: 48, Bits: 8}, [2]uint64{1, 2})
	if e != api.OK || l.Data != 24 {
		t.Fatal(l, e)
	}
	m, _ := model.New(l)
	m.Do(api.Call{Kind: api.CallCreate, Path: "/f"})
	m.Do(api.Call{Kind: api.CallCreate, Path: "/g"})
	m.Do(api.Call{Kind: api.CallUnlink, Path: "/f"})
	return api.Image{Layout: l, Things: m.State(), Blocks: used, Records: []int{1, 2, 5}}
}

func run(at, many int) api.Run { return api.Run{At: at, Many: many} }

// P20.1
func TestFree(t *testing.T) {
	x := small(t, 26, 27)
	if e := space.Check(x); e != api.OK {
		t.Error(e)
	}
	if l, e := space.Free(x); e != api.OK || !slices.Equal(l, []int{24, 25, 28, 29, 30, 31}) {
		t.Error(l, e)
	}
	if n, e := space.Inode(x); n != 2 || e != api.OK {
		t.Error(n, e)
	}
	if n, e := space.Record(x); n != 3 || e != api.OK {
		t.Error(n, e)
	}
	none := small(t)
	none.Records = nil
	if n, e := space.Record(none); n != 1 || e != api.OK {
		t.Error(n, e)
	}
	seq := space.Runs(x)
	for range 2 {
		if l := slices.Collect(seq); !slices.Equal(l, []api.Run{run(24, 2), run(28, 4)}) {
			t.Error(l)
		}
	}
	for r := range seq {
		if r.At != 24 {
			t.Error(r)
		}
		break
	}
	all := small(t, 24, 25, 26, 27, 28, 29, 30, 31)
	for n := range 48 {
		all.Records = append(all.Records[:min(n, len(all.Records))], n+1)
	}
	if l, e := space.Free(all); len(l) > 0 || e != api.OK || len(slices.Collect(space.Runs(all))) > 0 {
		t.Error(l, e)
	}
	if n, e := space.Record(all); n != 0 || e != api.ErrNone {
		t.Error(n, e)
	}
	m, _ := model.Of(all.Layout, all.Things...)
	for _, name := range []string{"/1", "/2", "/3", "/4", "/5", "/6"} {
		m.Do(api.Call{Kind: api.CallCreate, Path: name})
	}
	all.Things = m.State()
	if n, e := space.Inode(all); n != 0 || e != api.ErrNone {
		t.Error(n, e)
	}
}

// P20.1, P20.2, P20.3: images that may not be.
func TestNoImage(t *testing.T) {
	for i, change := range []func(x *api.Image){
		func(x *api.Image) { x.Layout.Data-- }, func(x *api.Image) { x.Things = nil }, func(x *api.Image) { x.Things[0].Links = 2 }, func(x *api.Image) { x.Blocks = []int{23} }, func(x *api.Image) { x.Blocks = []int{32} }, func(x *api.Image) { x.Blocks = []int{25, 25} }, func(x *api.Image) { x.Blocks = []int{26, 25} },
		func(x *api.Image) { x.Records = []int{0} }, func(x *api.Image) { x.Records = []int{49} }, func(x *api.Image) { x.Records = []int{3, 3} }, func(x *api.Image) { x.Records = []int{3, 2} }, func(x *api.Image) { *x = api.Image{} }, func(x *api.Image) { x.Blocks = []int{math.MinInt} },
	} {
		x := small(t, 26)
		change(&x)
		_, a := space.Free(x)
		in, b := space.Inode(x)
		rec, c := space.Record(x)
		if in != 0 || rec != 0 {
			t.Error(i, in, rec)
		}
		_, d := space.Pick(x, -1)
		_, f := space.Map(x)
		_, g := space.Stores(make([]uint64, 32*64), x)
		for _, e := range []api.Errno{space.Check(x), a, b, c, d, f, g} {
			if e != api.ErrArg {
				t.Error(i, e)
			}
		}
		for range space.Runs(x) {
			t.Error(i, "a run of no image")
		}
	}
}

// P20.2
func TestPick(t *testing.T) {
	x := small(t, 26, 27)
	for i, c := range []struct {
		many int
		want []api.Run
		e    api.Errno
	}{
		{3, []api.Run{run(28, 3)}, api.OK}, {5, []api.Run{run(24, 2), run(28, 3)}, api.OK}, {0, nil, api.OK}, {2, []api.Run{run(24, 2)}, api.OK}, {1, []api.Run{run(24, 1)}, api.OK}, {6, []api.Run{run(24, 2), run(28, 4)}, api.OK},
		{7, nil, api.ErrSpace}, {-1, nil, api.ErrArg}, {2048, nil, api.ErrSpace}, {2049, nil, api.ErrArg}, {math.MaxInt, nil, api.ErrArg},
	} {
		if l, e := space.Pick(x, c.many); e != c.e || !slices.Equal(l, c.want) {
			t.Error(i, l, e)
		}
	}
}

// P20.3
func TestMapAndStores(t *testing.T) {
	x := small(t, 26, 31)
	w, e := space.Map(x)
	if e != api.OK || len(w) != 64 || w[0] != 1<<24-1|1<<26|1<<31 || slices.Max(w[1:]) != 0 {
		t.Error(w, e)
	}
	words := make([]uint64, 32*64)
	at := x.Layout.Map * 64
	words[at+5], words[at+63] = 7, 8
	l, e := space.Stores(words, x)
	if e != api.OK || !slices.Equal(l, []api.Put{{At: at, Value: w[0]}, {At: at + 5}, {At: at + 63}}) {
		t.Error(l, e)
	}
	words[at], words[at+5], words[at+63] = w[0], 0, 0
	if l, e := space.Stores(words, x); len(l) > 0 || e != api.OK {
		t.Error(l, e)
	}
	if l, e := space.Stores(words[1:], x); len(l) > 0 || e != api.ErrArg {
		t.Error(l, e)
	}
}

// P20.4
func TestPickedIsFree(t *testing.T) {
	r := rand.New(rand.NewSource(20))
	l, _ := layout.Of(api.Form{Blocks: 100, Inodes: 4, Records: 4, Bits: 8}, [2]uint64{1, 2})
	m, _ := model.New(l)
	for range 500 {
		x := api.Image{Layout: l, Things: m.State()}
		for b := l.Data; b < 100; b++ {
			if r.Intn(3) == 0 {
				x.Blocks = append(x.Blocks, b)
			}
		}
		free, _ := space.Free(x)
		if len(free)+len(x.Blocks) != 100-l.Data {
			t.Fatal(free)
		}
		many := r.Intn(len(free) + 1)
		runs, e := space.Pick(x, many)
		if e != api.OK {
			t.Fatal(e)
		}
		seen := map[int]bool{}
		for _, run := range runs {
			for i := range run.Many {
				b := run.At + i
				if seen[b] || !slices.Contains(free, b) {
					t.Fatal(runs, b)
				}
				seen[b] = true
			}
		}
		if len(seen) != many {
			t.Fatal(runs, many)
		}
		for run := range space.Runs(x) {
			if len(runs) > 1 && run.Many >= many {
				t.Fatal(runs, run)
			}
		}
		words := make([]uint64, 6400)
		words[l.Map*64] = 5
		puts, _ := space.Stores(words, x)
		for _, p := range puts {
			words[p.At] = p.Value
		}
		if w, _ := space.Map(x); !slices.Equal(w, words[l.Map*64:l.Map*64+64]) {
			t.Fatal("map")
		}
	}
}
