package slots_test

import (
	"math"
	"math/rand"
	"slices"
	"testing"

	"hedgerow/api"
	"hedgerow/slots"
)

func pair(k, p uint64) api.Pair { return api.Pair{Key: k, Ptr: p} }

func put(at int, v uint64) api.Put { return api.Put{At: at, Value: v} }

// of lays pairs into so many slots.
func of(many int, l ...api.Pair) []uint64 {
	s := make([]uint64, 2*many)
	for i, p := range l {
		s[2*i], s[2*i+1] = p.Key, p.Ptr
	}
	return s
}

func apply(s []uint64, l []api.Put) []uint64 {
	out := slices.Clone(s)
	for _, p := range l {
		out[p.At] = p.Value
	}
	return out
}

func noRows() []struct {
	left uint64
	s    []uint64
} {
	return []struct {
		left uint64
		s    []uint64
	}{{9, nil}, {9, make([]uint64, 2)}, {9, make([]uint64, 5)}, {9, make([]uint64, 57)}, {9, make([]uint64, 58)}, {0, make([]uint64, 8)}}
}

func unsettled() [][]uint64 {
	return [][]uint64{
		of(4, pair(2, 4), pair(1, 5)), of(4, pair(1, 4), pair(1, 5)), of(4, pair(1, 4), pair(2, 5), pair(3, 4)), of(4, pair(1, 9)), of(4, pair(1, 4), pair(7, 4), pair(3, 6)),
		of(2, pair(1, 4), pair(2, 5)), of(4, pair(1, 4), pair(0, 0), pair(3, 6)), of(4, pair(1, 4), pair(2, 9)),
	}
}

// P9.1
func TestReadEachCheck(t *testing.T) {
	for _, row := range noRows() {
		if len(slots.Read(row.left, row.s)) > 0 || slots.Check(row.left, row.s) != api.ErrArg {
			t.Error(row)
		}
		for range slots.Each(row.left, row.s) {
			t.Error(row)
		}
	}
	s := of(4, pair(1, 4), pair(7, 4), pair(3, 6))
	if l := slots.Read(9, s); !slices.Equal(l, []api.Pair{pair(1, 4), pair(3, 6)}) {
		t.Error(l)
	}
	if l := slots.Read(4, s); !slices.Equal(l, []api.Pair{pair(3, 6)}) {
		t.Error(l)
	}
	seq := slots.Each(9, s)
	s[1] = 0
	for range 2 {
		var at []int
		for j, p := range seq {
			at = append(at, j, int(p.Key))
		}
		if !slices.Equal(at, []int{0, 1, 2, 3}) {
			t.Error(at)
		}
	}
	for j := range seq {
		if j != 0 {
			t.Error(j)
		}
		break
	}
	for _, s := range unsettled() {
		if e := slots.Check(9, s); e != api.ErrSlots {
			t.Error(s, e)
		}
	}
	for _, s := range [][]uint64{of(2), of(28), of(2, pair(0, 1)), of(4, pair(1, 4), pair(3, 6), pair(4, 7)), of(4, pair(1, 4), pair(5, 0)), of(28, pair(0, math.MaxUint64))} {
		if e := slots.Check(9, s); e != api.OK {
			t.Error(s, e)
		}
	}
	if l := slots.Read(9, of(2, pair(1, 4), pair(2, 5))); len(l) != 2 {
		t.Error(l)
	}
}

// P9.2
func TestChanges(t *testing.T) {
	s := of(4, pair(1, 4), pair(3, 6))
	l, e := slots.Put(9, s, pair(2, 5))
	if e != api.OK || !slices.Equal(l, []api.Put{put(7, 0), put(5, 6), put(4, 3), put(3, 4), put(2, 2), put(3, 5)}) {
		t.Error(l, e)
	}
	l, e = slots.Put(9, s, pair(0, 5))
	if e != api.OK || !slices.Equal(l, []api.Put{put(7, 0), put(5, 6), put(4, 3), put(3, 4), put(2, 1), put(1, 9), put(0, 0), put(1, 5)}) {
		t.Error(l, e)
	}
	l, e = slots.Put(9, of(2), pair(5, 5))
	if e != api.OK || !slices.Equal(l, []api.Put{put(3, 0), put(1, 9), put(0, 5), put(1, 5)}) {
		t.Error(l, e)
	}
	l, e = slots.Put(9, of(3, pair(1, 1)), pair(5, 5))
	if e != api.OK || !slices.Equal(l, []api.Put{put(5, 0), put(3, 1), put(2, 5), put(3, 5)}) {
		t.Error(l, e)
	}
	l, e = slots.Put(9, of(2, pair(1, 1))[:4], pair(5, 5))
	if len(l) > 0 || e != api.ErrLong {
		t.Error(l, e)
	}
	l, e = slots.Take(9, s, 1)
	if e != api.OK || !slices.Equal(l, []api.Put{put(1, 9), put(0, 3), put(1, 6), put(3, 0)}) {
		t.Error(l, e)
	}
	l, e = slots.Take(9, s, 3)
	if e != api.OK || !slices.Equal(l, []api.Put{put(3, 4), put(3, 0)}) {
		t.Error(l, e)
	}
	l, e = slots.Swap(9, s, pair(3, 7))
	if e != api.OK || !slices.Equal(l, []api.Put{put(3, 7)}) {
		t.Error(l, e)
	}
}

// P9.2
func TestRefusals(t *testing.T) {
	s := of(4, pair(1, 4), pair(3, 6))
	full := of(3, pair(1, 4), pair(3, 6))
	twisted := of(4, pair(3, 4), pair(1, 6))
	for i, row := range []struct {
		f    func(uint64, []uint64, api.Pair) ([]api.Put, api.Errno)
		s    []uint64
		p    api.Pair
		want api.Errno
	}{
		{slots.Put, s, pair(2, 0), api.ErrArg}, {slots.Put, s, pair(2, 9), api.ErrArg}, {slots.Put, s, pair(1, 6), api.ErrArg}, {slots.Put, s, pair(1, 7), api.ErrTwice},
		{slots.Put, full, pair(1, 7), api.ErrTwice}, {slots.Put, full, pair(2, 7), api.ErrLong}, {slots.Put, twisted, pair(2, 4), api.ErrSlots}, {slots.Put, twisted, pair(2, 9), api.ErrArg}, {slots.Put, nil, pair(2, 5), api.ErrArg},
		{slots.Swap, s, pair(3, 0), api.ErrArg}, {slots.Swap, s, pair(3, 9), api.ErrArg}, {slots.Swap, s, pair(3, 6), api.ErrArg}, {slots.Swap, s, pair(2, 4), api.ErrArg}, {slots.Swap, s, pair(2, 7), api.ErrNone},
		{slots.Swap, twisted, pair(3, 4), api.ErrSlots}, {slots.Swap, twisted, pair(3, 0), api.ErrArg}, {slots.Swap, s[:3], pair(3, 7), api.ErrArg},
	} {
		if l, e := row.f(9, row.s, row.p); len(l) > 0 || e != row.want {
			t.Error(i, l, e)
		}
	}
	for _, s := range unsettled() {
		if l, e := slots.Take(9, s, 1); len(l) > 0 || e != api.ErrSlots {
			t.Error(s, l, e)
		}
	}
	if _, e := slots.Take(9, s, 2); e != api.ErrNone {
		t.Error(e)
	}
	for _, row := range noRows() {
		if _, e := slots.Take(row.left, row.s, 1); e != api.ErrArg {
			t.Error(row, e)
		}
		if _, e := slots.Tidy(row.left, row.s); e != api.ErrArg {
			t.Error(row, e)
		}
		if _, e := slots.Put(row.left, row.s, pair(1, 1)); e != api.ErrArg {
			t.Error(row, e)
		}
	}
}

// P9.3
func TestTidy(t *testing.T) {
	l, e := slots.Tidy(9, of(4, pair(1, 4), pair(7, 4), pair(3, 6)))
	if e != api.OK || !slices.Equal(l, []api.Put{put(2, 3), put(3, 6), put(5, 0)}) {
		t.Error(l, e)
	}
	l, e = slots.Tidy(9, of(6, pair(1, 4), pair(0, 0), pair(3, 6), pair(0, 0), pair(1, 1), pair(1, 1)))
	if e != api.OK || !slices.Equal(l, []api.Put{put(11, 0), put(9, 0), put(5, 0)}) {
		t.Error(l, e)
	}
	if l, e := slots.Tidy(9, of(4, pair(1, 4))); len(l) > 0 || e != api.OK {
		t.Error(l, e)
	}
	for _, s := range [][]uint64{of(4, pair(2, 4), pair(1, 5)), of(4, pair(1, 4), pair(2, 9)), of(2, pair(1, 4), pair(2, 5)), of(4, pair(1, 4), pair(2, 5), pair(3, 4))} {
		if l, e := slots.Tidy(9, s); len(l) > 0 || e != api.ErrSlots {
			t.Error(s, l, e)
		}
	}
}

// P9.4
func TestAnyTime(t *testing.T) {
	r := rand.New(rand.NewSource(9))
	for range 2000 {
		many := 2 + r.Intn(6)
		var l []api.Pair
		key := uint64(r.Intn(3))
		for i := range r.Intn(many) {
			l = append(l, pair(key, uint64(20+i)))
			key += 1 + uint64(r.Intn(3))
		}
		s := of(many, l...)
		p := pair(uint64(r.Intn(int(key)+2)), 50)
		var stores []api.Put
		var e api.Errno
		want := slices.Clone(l)
		at, is := slices.BinarySearchFunc(l, p, func(a, b api.Pair) int { return int(a.Key) - int(b.Key) })
		switch r.Intn(3) {
		case 0:
			stores, e = slots.Put(9, s, p)
			if (e == api.OK) != (!is && len(l) < many-1) {
				t.Fatal(e)
			}
			want = slices.Insert(want, at, p)
		case 1:
			stores, e = slots.Take(9, s, p.Key)
			if is {
				want = slices.Delete(want, at, at+1)
			}
		case 2:
			stores, e = slots.Swap(9, s, p)
			if is {
				want[at] = p
			}
		}
		if e != api.OK {
			continue
		}
		checkChange(t, s, stores, l, want)
	}
}

func checkChange(t *testing.T, s []uint64, stores []api.Put, was, want []api.Pair) {
	t.Helper()
	done := false
	for n := range len(stores) + 1 {
		now := apply(s, stores[:n])
		got := slots.Read(9, now)
		if !slices.Equal(got, want) && (done || !slices.Equal(got, was)) {
			t.Fatal(n, got, was, want)
		}
		done = slices.Equal(got, want)
		tidy, e := slots.Tidy(9, now)
		if e != api.OK {
			t.Fatal(n, now, e)
		}
		for k := range len(tidy) + 1 {
			if !slices.Equal(slots.Read(9, apply(now, tidy[:k])), got) {
				t.Fatal(n, k)
			}
		}
		if slots.Check(9, apply(now, tidy)) != api.OK {
			t.Fatal(n, "not settled behind Tidy")
		}
	}
	if now := apply(s, stores); slots.Check(9, now) != api.OK || !done {
		t.Fatal(now, "not settled behind all")
	}
}
