package extents_test

import (
	"math"
	"math/rand"
	"slices"
	"testing"

	"hedgerow/api"
	"hedgerow/extents"
)

func ext(file, dev, many int) api.Extent { return api.Extent{File: file, Dev: dev, Many: many} }

func run(at, many int) api.Run { return api.Run{At: at, Many: many} }

func bad() [][]api.Extent {
	long := []api.Extent{}
	for i := range 11 {
		long = append(long, ext(2*i, 10+2*i, 1))
	}
	return [][]api.Extent{
		long,
		{ext(-1, 5, 1)}, {ext(0, 0, 1)}, {ext(0, 5, 0)}, {ext(0, 5, -1)}, {ext(127, 5, 2)}, {ext(128, 5, 1)}, {ext(0, 5, 129)}, {ext(0, 2047, 2)}, {ext(0, 2048, 1)},
		{ext(math.MaxInt, 5, math.MaxInt)}, {ext(0, math.MaxInt, math.MaxInt)}, {ext(0, math.MinInt, math.MinInt)},
		{ext(0, 5, 1), ext(1, 6, 1)}, {ext(0, 5, 2), ext(1, 9, 2)}, {ext(4, 5, 1), ext(0, 9, 1)}, {ext(0, 5, 4), ext(4, 7, 1)}, {ext(0, 5, 4), ext(9, 3, 3)}, {ext(0, 5, 1), ext(3, 9, 1), ext(6, 5, 1)},
	}
}

// P6.1
func TestCheckFindEachBlocks(t *testing.T) {
	good := [][]api.Extent{nil, {ext(0, 1, 128)}, {ext(127, 2047, 1)}, {ext(0, 5, 1), ext(1, 7, 1)}, {ext(0, 5, 1), ext(2, 6, 1)}, {ext(0, 9, 2), ext(2, 7, 2)}}
	for _, l := range good {
		if e := extents.Check(l); e != api.OK {
			t.Error(l, e)
		}
	}
	for _, l := range bad() {
		if e := extents.Check(l); e != api.ErrArg {
			t.Error(l, e)
		}
		if at, is := extents.Find(l, l[0].File); at != 0 || is || extents.Blocks(l) != 0 {
			t.Error(l, at, is)
		}
		for range extents.Each(l) {
			t.Error(l, "has blocks")
		}
	}
	l := []api.Extent{ext(1, 5, 2), ext(9, 20, 1)}
	for block, want := range map[int]int{0: 0, 1: 5, 2: 6, 3: 0, 9: 20, -1: 0, math.MaxInt: 0, 128: 0} {
		if at, is := extents.Find(l, block); at != want || is != (want != 0) {
			t.Error(block, at, is)
		}
	}
	seq := extents.Each(l)
	l[0].Dev = 50
	for range 2 {
		var got []int
		for b, d := range seq {
			got = append(got, b, d)
		}
		if !slices.Equal(got, []int{1, 5, 2, 6, 9, 20}) {
			t.Error(got)
		}
	}
	for b := range seq {
		if b != 1 {
			t.Error(b)
		}
		break
	}
	if extents.Blocks(l) != 3 || extents.Blocks(nil) != 0 {
		t.Error(extents.Blocks(l))
	}
}

// P6.2
func TestPutAndCut(t *testing.T) {
	one, runs, e := extents.Put(nil, ext(0, 5, 4))
	if e != api.OK || len(runs) > 0 || !slices.Equal(one, []api.Extent{ext(0, 5, 4)}) {
		t.Error(one, runs, e)
	}
	two, runs, e := extents.Put(one, ext(1, 9, 2))
	if e != api.OK || !slices.Equal(runs, []api.Run{run(6, 2)}) || !slices.Equal(two, []api.Extent{ext(0, 5, 1), ext(1, 9, 2), ext(3, 8, 1)}) {
		t.Error(two, runs, e)
	}
	for _, x := range []api.Extent{ext(0, 5, 4), ext(20, 8, 1), ext(20, 7, 9), ext(20, 0, 1), ext(128, 30, 1)} {
		if l, r, e := extents.Put(two, x); len(l) > 0 || len(r) > 0 || e != api.ErrArg {
			t.Error(x, l, r, e)
		}
	}
	full := []api.Extent{}
	for i := range 10 {
		full = append(full, ext(2*i, 10+2*i, 1))
	}
	if l, r, e := extents.Put(full, ext(50, 100, 1)); len(l) > 0 || len(r) > 0 || e != api.ErrLong {
		t.Error(l, r, e)
	}
	if l, _, e := extents.Put(full[:9], ext(50, 100, 1)); e != api.OK || len(l) != 10 {
		t.Error(l, e)
	}
	if l, _, e := extents.Put(full, ext(1, 11, 1)); e != api.OK || len(l) != 9 {
		t.Error(l, e)
	}
	for _, l := range bad() {
		if _, _, e := extents.Put(l, ext(0, 5, 1)); e != api.ErrArg {
			t.Error(l, e)
		}
		if _, _, e := extents.Cut(l, 3); e != api.ErrArg {
			t.Error(l, e)
		}
	}
	l, runs, e := extents.Cut([]api.Extent{ext(0, 5, 4)}, 1)
	if e != api.OK || !slices.Equal(l, []api.Extent{ext(0, 5, 1)}) || !slices.Equal(runs, []api.Run{run(6, 3)}) {
		t.Error(l, runs, e)
	}
	l, runs, e = extents.Cut([]api.Extent{ext(0, 5, 1), ext(4, 6, 1), ext(5, 3, 2)}, 0)
	if e != api.OK || len(l) != 0 || !slices.Equal(runs, []api.Run{run(5, 2), run(3, 2)}) {
		t.Error(l, runs, e)
	}
	for _, n := range []int{-1, 129, math.MaxInt} {
		if _, _, e := extents.Cut(nil, n); e != api.ErrArg {
			t.Error(n, e)
		}
	}
	if l, r, e := extents.Cut(two, 128); e != api.OK || len(r) > 0 || !slices.Equal(l, two) {
		t.Error(l, r, e)
	}
}

// P6.3
func TestWordsAndOf(t *testing.T) {
	l := []api.Extent{ext(1, 5, 2), ext(9, 20, 1)}
	w, e := extents.Words(l)
	want := [api.MaxExtents]uint64{1 | 5<<16 | 2<<40, 9 | 20<<16 | 1<<40}
	if e != api.OK || w != want {
		t.Error(w, e)
	}
	for _, l := range bad() {
		if w, e := extents.Words(l); e != api.ErrArg || w != [api.MaxExtents]uint64{} {
			t.Error(l, w, e)
		}
	}
	for _, w := range [][api.MaxExtents]uint64{{0, 1 | 5<<16 | 1<<40}, {1}, {1 | 5<<16 | 1<<40 | 1<<56}, {1 | 5<<16 | 1<<40, 2 | 6<<16 | 1<<40}, {math.MaxUint64}} {
		if l, e := extents.Of(w); len(l) > 0 || e != api.ErrArg {
			t.Error(w, l, e)
		}
	}
	if l, e := extents.Of([api.MaxExtents]uint64{}); len(l) != 0 || e != api.OK {
		t.Error(l, e)
	}
}

// P6.4
func TestWhatWasNotNamedStays(t *testing.T) {
	r := rand.New(rand.NewSource(6))
	var l []api.Extent
	for range 3000 {
		was := map[int]int{}
		for b, d := range extents.Each(l) {
			was[b] = d
		}
		if r.Intn(8) == 0 {
			n := r.Intn(129)
			next, runs, e := extents.Cut(l, n)
			if e != api.OK {
				t.Fatal(e)
			}
			checkChange(t, was, next, runs, n, 128, 0)
			l = next
			continue
		}
		x := ext(r.Intn(120), 1+r.Intn(2000), 1+r.Intn(8))
		next, runs, e := extents.Put(l, x)
		if e != api.OK {
			continue
		}
		checkChange(t, was, next, runs, x.File, x.File+x.Many, x.Dev)
		l = next
		w, _ := extents.Words(l)
		if back, e := extents.Of(w); e != api.OK || !slices.Equal(back, l) {
			t.Fatal(back, e)
		}
	}
}

func checkChange(t *testing.T, was map[int]int, next []api.Extent, runs []api.Run, from, to, dev int) {
	t.Helper()
	if extents.Check(next) != api.OK {
		t.Fatal(next)
	}
	freed := []int{}
	for _, run := range runs {
		for i := range run.Many {
			freed = append(freed, run.At+i)
		}
	}
	want := []int{}
	for b := range 128 {
		d, is := was[b]
		got, has := extents.Find(next, b)
		switch {
		case b < from || b >= to:
			if got != d || has != is {
				t.Fatal(b, got, d)
			}
		default:
			if is {
				want = append(want, d)
			}
			if dev == 0 && has || dev != 0 && got != dev+b-from {
				t.Fatal(b, got)
			}
		}
	}
	if !slices.Equal(freed, want) {
		t.Fatal(freed, want)
	}
}
