package order_test

import (
	"math/rand"
	"slices"
	"strconv"
	"testing"

	"hedgerow/api"
	"hedgerow/layout"
	"hedgerow/model"
	"hedgerow/mount"
	"hedgerow/order"
	"hedgerow/yard"
)

func made(t *testing.T) *model.Model {
	t.Helper()
	l, e := layout.Of(api.Form{Blocks: 64, Inodes: 32, Records: 64, Bits: 8}, [2]uint64{1, 2})
	if e != api.OK {
		t.Fatal(e)
	}
	m, _ := model.New(l)
	return m
}

func moment(began, read, ended int, k api.CallKind, path string, a api.Answer) api.Moment {
	return api.Moment{Began: began, Read: read, Ended: ended, Call: api.Call{Kind: k, Path: path}, Answer: a}
}

func two() []api.Moment {
	return []api.Moment{
		moment(0, 3, 5, api.CallCreate, "/a", api.Answer{Inode: 2}),
		moment(1, 2, 4, api.CallLookup, "/a", api.Answer{Errno: api.ErrNoEnt}),
	}
}

func plain(began, ended int) api.Moment {
	return moment(began, began, ended, api.CallLookup, "/", api.Answer{Inode: 1, Kind: api.InodeDir})
}

// P29.1
func TestCheckAndBehind(t *testing.T) {
	m, l := made(t), two()
	for i, c := range []struct {
		order []int
		e     api.Errno
	}{{[]int{0, 1}, api.ErrOrder}, {[]int{1, 0}, api.OK}, {[]int{0}, api.ErrArg}, {nil, api.ErrArg}, {[]int{0, 1, 1}, api.ErrArg}, {[]int{0, 2}, api.ErrArg}, {[]int{-1, 0}, api.ErrArg}, {[]int{1, 0, 2}, api.ErrArg}} {
		if e := order.Check(m, l, c.order...); e != c.e {
			t.Error(i, e)
		}
		b, e := order.Behind(m, l, c.order...)
		want := c.e
		if want == api.ErrOrder {
			want = api.OK
		}
		if e != want || (b == nil) == (e == api.OK) {
			t.Error(i, e)
		}
	}
	b, _ := order.Behind(m, l, 0, 1)
	if len(b.State()) != 2 || len(m.State()) != 1 {
		t.Error("behind")
	}
	// One that did not end may have come to pass, or not; one that ended for want of space is not done.
	open := append(two(), moment(2, -1, -1, api.CallMkdir, "/d", api.Answer{}), moment(3, 9, 9, api.CallMkdir, "/e", api.Answer{Errno: api.ErrSpace}))
	for _, list := range [][]int{{1, 0, 3}, {1, 0, 3, 2}, {3, 1, 0}} {
		if e := order.Check(m, open, list...); e != api.OK {
			t.Error(list, e)
		}
	}
	if e := order.Check(m, open, 2, 1, 0, 3); e != api.ErrOrder {
		t.Error("the call that did not end is not done", e)
	}
	if b, _ := order.Behind(m, open, 1, 0, 3, 2); len(b.State()) != 3 {
		t.Error(b.State())
	}
	// One that ended ahead of another one's beginning stands ahead.
	row := []api.Moment{plain(0, 2), plain(2, 4), plain(3, 9), plain(5, -1)}
	for list, want := range map[[4]int]api.Errno{{0, 1, 2, 3}: api.OK, {1, 0, 2, 3}: api.OK, {0, 2, 1, 3}: api.OK, {2, 0, 1, 3}: api.ErrArg, {0, 3, 1, 2}: api.ErrArg, {0, 1, 3, 2}: api.OK} {
		if e := order.Check(m, row, list[:]...); e != want {
			t.Error(list, e)
		}
	}
}

// P29.1, P29.2: what is no model, no history.
func TestRefused(t *testing.T) {
	m := made(t)
	many := make([]api.Moment, 65)
	for i := range many {
		many[i] = plain(i, 100)
	}
	for i, l := range [][]api.Moment{{plain(-1, 5)}, {plain(5, 5)}, {plain(5, 4)}, {plain(5, -2)}, many} {
		_, b := order.Behind(m, l)
		_, r := order.Reads(l)
		_, f := order.Find(m, l)
		for _, e := range []api.Errno{order.Check(m, l), b, r, f} {
			if e != api.ErrArg {
				t.Error(i, e)
			}
		}
		for range order.Each(l) {
			t.Error(i)
		}
	}
	for _, none := range []*model.Model{nil, {}} {
		_, b := order.Behind(none, many)
		_, f := order.Find(none, many)
		if order.Check(none, many) != api.ErrNil || b != api.ErrNil || f != api.ErrNil {
			t.Error(b, f)
		}
	}
	if _, e := order.Reads(many[:64]); e != api.OK {
		t.Error(e)
	}
	if l, e := order.Find(m, many[:9]); len(l) > 0 || e != api.ErrLong {
		t.Error(e)
	}
	for range order.Each(many[:9]) {
		t.Error("orders of nine")
	}
	if _, e := order.Find(m, many[:8]); e != api.OK {
		t.Error(e)
	}
}

// P29.2, P29.3
func TestReadsFindEach(t *testing.T) {
	m, l := made(t), two()
	if list, e := order.Reads(l); e != api.OK || !slices.Equal(list, []int{1, 0}) {
		t.Error(list, e)
	}
	if list, e := order.Find(m, l); e != api.OK || !slices.Equal(list, []int{1, 0}) {
		t.Error(list, e)
	}
	same := []api.Moment{moment(0, 7, 9, api.CallLookup, "/", api.Answer{}), moment(1, -1, -1, api.CallLookup, "/", api.Answer{}), moment(2, 7, 9, api.CallLookup, "/", api.Answer{}), moment(3, 5, 9, api.CallLookup, "/", api.Answer{})}
	if list, e := order.Reads(same); e != api.OK || !slices.Equal(list, []int{3, 0, 2}) {
		t.Error(list, e)
	}
	if list, e := order.Reads([]api.Moment{moment(0, 9, 2, api.CallLookup, "/", api.Answer{}), moment(5, 6, 8, api.CallLookup, "/", api.Answer{})}); len(list) > 0 || e != api.ErrArg {
		t.Error(list, e)
	}
	if list, e := order.Reads(nil); len(list) != 0 || e != api.OK {
		t.Error(list, e)
	}
	never := append(two(), moment(6, 7, 8, api.CallLookup, "/b", api.Answer{Inode: 3}))
	if list, e := order.Find(m, never); len(list) > 0 || e != api.ErrOrder {
		t.Error(list, e)
	}
	collect := func(l []api.Moment) [][]int {
		seq := order.Each(l)
		a, b := slices.Collect(seq), slices.Collect(seq)
		if !slices.EqualFunc(a, b, slices.Equal[[]int]) {
			t.Error("gone over again it is another one")
		}
		for x := range seq {
			for i := range x {
				x[i] = 99
			}
		}
		for x := range seq {
			if len(x) > 0 && x[0] == 99 {
				t.Error("a list is shared")
			}
			break
		}
		return a
	}
	if all := collect([]api.Moment{plain(0, 9), plain(1, -1), plain(2, 9), plain(3, 9)}); len(all) != 6 || !slices.Equal(all[0], []int{0, 2, 3}) || !slices.Equal(all[1], []int{0, 3, 2}) || !slices.Equal(all[5], []int{3, 2, 0}) {
		t.Error(all)
	}
	if all := collect([]api.Moment{plain(0, 2), plain(1, 4), plain(3, 5)}); !slices.EqualFunc(all, [][]int{{0, 1, 2}, {0, 2, 1}, {1, 0, 2}}, slices.Equal[[]int]) {
		t.Error(all)
	}
	if all := collect([]api.Moment{plain(0, -1)}); len(all) != 1 || len(all[0]) != 0 {
		t.Error(all)
	}
	eight := 0
	for list := range order.Each([]api.Moment{plain(0, 9), plain(1, 9), plain(2, 9), plain(3, 9), plain(4, -1), plain(5, -1), plain(6, -1), plain(7, -1)}) {
		if eight++; len(list) != 4 {
			t.Error(list)
		}
	}
	if eight != 24 {
		t.Error(eight)
	}
	if all := collect(nil); len(all) != 1 {
		t.Error(all)
	}
}

// P29.3
func TestFindIsTheFirst(t *testing.T) {
	r := rand.New(rand.NewSource(29))
	for range 150 {
		m := made(t)
		now := m.Copy()
		var l []api.Moment
		for i := range 5 {
			c := api.Call{Kind: []api.CallKind{api.CallCreate, api.CallUnlink, api.CallLookup}[r.Intn(3)], Path: "/" + strconv.Itoa(r.Intn(2))}
			x := api.Moment{Began: i, Ended: i + 1 + r.Intn(5), Call: c, Answer: now.Do(c)}
			if r.Intn(3) == 0 {
				x.Answer.Inode = 3
			}
			l = append(l, x)
		}
		var want []int
		for list := range order.Each(l) {
			if order.Check(m, l, list...) == api.OK {
				want = list
				break
			}
		}
		got, e := order.Find(m, l)
		if (e == api.OK) != (len(want) > 0) || e != api.OK && e != api.ErrOrder || !slices.Equal(got, want) {
			t.Fatal(got, want, e)
		}
	}
}

// P29.4
func TestOfAYard(t *testing.T) {
	r := rand.New(rand.NewSource(30))
	for range 5 {
		words, _ := mount.Make(api.Form{Blocks: 64, Inodes: 32, Records: 64, Bits: 8}, [2]uint64{1, 2})
		y, _ := yard.New(words)
		for begun := 0; begun < 40; {
			h := api.Hap{Kind: api.HapPick, Client: r.Intn(8)}
			if r.Intn(60) == 0 {
				h = api.Hap{Kind: api.HapBegin, Client: r.Intn(8), Call: api.Call{Kind: api.CallKind(1 + r.Intn(14)), Path: "/" + strconv.Itoa(r.Intn(5)), To: "/" + strconv.Itoa(r.Intn(5)), Many: 3, Bytes: []byte("abc")}}
			}
			if _, e := y.Do(h); e == api.OK && h.Kind == api.HapBegin {
				begun++
			}
		}
		for open := true; open; {
			for c := range 8 {
				y.Do(api.Hap{Kind: api.HapPick, Client: c})
			}
			open = slices.ContainsFunc(y.History(), func(x api.Moment) bool { return x.Ended < 0 })
		}
		l := y.History()
		list, e := order.Reads(l)
		if e != api.OK || order.Check(made(t), l, list...) != api.OK {
			t.Fatal(e)
		}
		b, _ := order.Behind(made(t), l, list...)
		_, x, _ := mount.Mount(y.Memory().Image())
		if m, _ := model.Of(x.Layout, x.Things...); !model.Same(b, m) {
			t.Fatal("another state")
		}
	}
}
