package bitmap_test

import (
	"math"
	"math/rand"
	"slices"
	"testing"

	"hedgerow/api"
	"hedgerow/bitmap"
)

func made(t *testing.T, bits int, set ...int) *bitmap.Map {
	t.Helper()
	m, e := bitmap.New(bits)
	if e != api.OK {
		t.Fatal(bits, e)
	}
	for _, at := range set {
		if e := m.Set(at, 1); e != api.OK {
			t.Fatal(at, e)
		}
	}
	return m
}

// P5.1
func TestNewOfWords(t *testing.T) {
	for bits, want := range map[int]api.Errno{1: api.OK, 65536: api.OK, 0: api.ErrArg, -1: api.ErrArg, 65537: api.ErrArg, math.MaxInt: api.ErrArg, math.MinInt: api.ErrArg} {
		m, e := bitmap.New(bits)
		if e != want || (m == nil) == (e == api.OK) {
			t.Error(bits, e)
		}
		if m, e := bitmap.Of(bits, nil); m != nil || e != api.ErrArg {
			t.Error(bits, e)
		}
	}
	in := []uint64{1, 3}
	m, e := bitmap.Of(66, in)
	in[0] = 99
	if e != api.OK || !slices.Equal(m.Words(), []uint64{1, 3}) || m.Left() != 63 {
		t.Error(e, m.Words())
	}
	for _, row := range []struct {
		bits int
		l    []uint64
	}{{66, []uint64{0, 4}}, {66, []uint64{0}}, {66, []uint64{0, 0, 0}}, {1, []uint64{2}}, {63, []uint64{1 << 63}}} {
		if m, e := bitmap.Of(row.bits, row.l); m != nil || e != api.ErrArg {
			t.Error(row, e)
		}
	}
	if m, e := bitmap.Of(64, []uint64{1 << 63}); e != api.OK || m.Left() != 63 {
		t.Error(e)
	}
}

// P5.2
func TestSetFreeGet(t *testing.T) {
	m := made(t, 100)
	for _, row := range []struct {
		at, many int
		e        api.Errno
	}{{0, 100, api.OK}, {100, 0, api.OK}, {101, 0, api.ErrRange}, {-1, 1, api.ErrRange}, {99, 2, api.ErrRange}, {5, -1, api.ErrRange}, {1, math.MaxInt, api.ErrRange}, {math.MaxInt, math.MaxInt, api.ErrRange}} {
		was := m.Words()
		if e := m.Free(row.at, row.many); e != row.e {
			t.Error(row, e)
		}
		if e := m.Set(row.at, row.many); e != row.e {
			t.Error(row, e)
		}
		if row.e != api.OK && !slices.Equal(was, m.Words()) {
			t.Error(row, "changed")
		}
	}
	m.Free(60, 10)
	for at := -1; at < 102; at++ {
		is, e := m.Get(at)
		if at < 0 || at >= 100 {
			if is || e != api.ErrRange {
				t.Error(at, is, e)
			}
		} else if e != api.OK || is != (at < 60 || at >= 70) {
			t.Error(at, is, e)
		}
	}
}

// P5.3
func TestFindLeftLenRuns(t *testing.T) {
	m := made(t, 10)
	m.Set(2, 3)
	for _, row := range []struct {
		many, from, want int
		e                api.Errno
	}{{2, 1, 5, api.OK}, {3, 2, 5, api.OK}, {6, 0, 0, api.ErrNone}, {5, 9, 5, api.OK}, {1, 1, 1, api.OK}, {2, 0, 0, api.OK}, {2, 9, 0, api.OK}, {0, 99, 0, api.ErrArg}, {1, 10, 0, api.ErrRange}, {1, -1, 0, api.ErrRange}, {math.MaxInt, 0, 0, api.ErrNone}, {2, 7, 7, api.OK}} {
		if at, e := m.Find(row.many, row.from); at != row.want || e != row.e {
			t.Error(row, at, e)
		}
	}
	seq := m.Runs()
	m.Set(9, 1)
	if l := slices.Collect(seq); !slices.Equal(l, []api.Run{{At: 2, Many: 3}}) {
		t.Error(l)
	}
	if l := slices.Collect(m.Runs()); !slices.Equal(l, []api.Run{{At: 2, Many: 3}, {At: 9, Many: 1}}) {
		t.Error(l)
	}
	for run := range m.Runs() {
		if run.At != 2 {
			t.Error(run)
		}
		break
	}
	if m.Left() != 6 || m.Len() != 10 || m.Words()[0] != 28|512 {
		t.Error(m.Left(), m.Len(), m.Words())
	}
}

// P5.4
func TestCopyAndSame(t *testing.T) {
	m := made(t, 70, 3, 69)
	c := m.Copy()
	if !bitmap.Same(m, c) {
		t.Error("a copy is another one")
	}
	c.Set(0, 1)
	if is, _ := m.Get(0); is || bitmap.Same(m, c) {
		t.Error("a copy does not go on apart")
	}
	if bitmap.Same(made(t, 70), made(t, 71)) || bitmap.Same(m, nil) || bitmap.Same(nil, m) || !bitmap.Same(nil, nil) {
		t.Error("same")
	}
	for _, none := range []*bitmap.Map{nil, {}} {
		if none.Set(-1, 0) != api.ErrNil || none.Free(0, 0) != api.ErrNil || none.Left() != 0 || none.Len() != 0 || len(none.Words()) > 0 || none.Copy() != nil || !bitmap.Same(none, nil) {
			t.Error("none")
		}
		if is, e := none.Get(0); is || e != api.ErrNil {
			t.Error(e)
		}
		if at, e := none.Find(0, 0); at != 0 || e != api.ErrNil {
			t.Error(e)
		}
		for range none.Runs() {
			t.Error("a run of none")
		}
	}
}

// P5.5
func TestTogether(t *testing.T) {
	r := rand.New(rand.NewSource(5))
	for range 200 {
		bits := 1 + r.Intn(200)
		m := made(t, bits)
		for range r.Intn(8) {
			at := r.Intn(bits)
			m.Set(at, r.Intn(bits-at+1))
			at = r.Intn(bits)
			m.Free(at, r.Intn(min(9, bits-at+1)))
		}
		back, e := bitmap.Of(bits, m.Words())
		if e != api.OK || !bitmap.Same(back, m) {
			t.Fatal(e)
		}
		set := 0
		for run := range m.Runs() {
			set += run.Many
		}
		if set+m.Left() != bits {
			t.Fatal(set, m.Left(), bits)
		}
		many, from := 1+r.Intn(20), r.Intn(bits)
		want, is := plainFind(m, many, from)
		got, e := m.Find(many, from)
		if (e == api.OK) != is || e == api.ErrNone && is || got != want {
			t.Fatal(many, from, got, e, want, is)
		}
	}
}

// plainFind looks at each place by itself.
func plainFind(m *bitmap.Map, many, from int) (int, bool) {
	for i := range 2 * m.Len() {
		at := from + i
		if at >= m.Len() {
			at -= m.Len()
			if at >= from {
				break
			}
		}
		free := at+many <= m.Len()
		for j := at; free && j < at+many; j++ {
			set, _ := m.Get(j)
			free = !set
		}
		if free {
			return at, true
		}
	}
	return 0, false
}
