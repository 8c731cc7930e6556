package plan_test

import (
	"math"
	"math/rand"
	"slices"
	"testing"

	"hedgerow/api"
	"hedgerow/plan"
	"hedgerow/pmem"
)

func put(at int, v uint64) api.Put { return api.Put{At: at, Value: v} }

func store(at int, v uint64) api.Act { return api.Act{Kind: api.ActStore, At: at, Value: v} }

func flush(line int) api.Act { return api.Act{Kind: api.ActFlush, At: line} }

func fence() api.Act { return api.Act{Kind: api.ActFence} }

// P8.1
func TestCheckOrderStores(t *testing.T) {
	for _, bad := range []api.Act{{}, {Kind: 4}, {Kind: -1}, store(-1, 0), flush(-1), {Kind: api.ActFlush, Value: 1}, {Kind: api.ActFence, At: 1}, {Kind: api.ActFence, Value: 1}} {
		if e := plan.Check(store(1, 1), bad); e != api.ErrArg {
			t.Error(bad, e)
		}
		if plan.Ordered(bad) {
			t.Error(bad, "is ordered")
		}
	}
	if e := plan.Check(store(math.MaxInt, 1), flush(math.MaxInt), fence()); e != api.OK || plan.Check() != api.OK {
		t.Error(e)
	}
	want := []api.Act{store(3, 7), store(4, 8), flush(0), fence(), store(9, 1), flush(1), fence()}
	got, e := plan.Order(put(3, 7), put(4, 8), put(9, 1))
	if e != api.OK || !slices.Equal(got, want) {
		t.Error(got, e)
	}
	if got, e := plan.Order(put(3, 7), put(-1, 8)); len(got) > 0 || e != api.ErrArg {
		t.Error(got, e)
	}
	if got, e := plan.Order(); len(got) > 0 || e != api.OK {
		t.Error(got, e)
	}
	if l := plan.Stores(want...); !slices.Equal(l, []api.Put{put(3, 7), put(4, 8), put(9, 1)}) {
		t.Error(l)
	}
	for i, row := range []struct {
		l  []api.Act
		is bool
	}{
		{nil, true}, {want, true}, {[]api.Act{flush(0)}, true}, {[]api.Act{fence(), fence()}, true},
		{[]api.Act{store(3, 1), fence()}, false}, {[]api.Act{store(3, 1)}, false}, {[]api.Act{store(3, 1), flush(0)}, false},
		{[]api.Act{flush(0), store(3, 1), fence()}, false}, {[]api.Act{store(3, 1), flush(1), fence()}, false},
		{[]api.Act{store(3, 1), flush(0), store(4, 1), fence()}, false}, {[]api.Act{store(3, 1), flush(0), store(4, 1), flush(0), fence()}, true},
		{[]api.Act{store(3, 1), flush(0), flush(5), fence(), flush(9)}, true}, {[]api.Act{store(3, 1), store(9, 1), flush(0), flush(1), fence()}, false},
		{[]api.Act{store(3, 1), flush(0), fence(), store(9, 1)}, false},
	} {
		if plan.Ordered(row.l...) != row.is {
			t.Error(i)
		}
	}
}

// P8.1
func TestEach(t *testing.T) {
	in := []api.Put{put(3, 7), put(9, 1)}
	seq := plan.Each(in...)
	in[0] = put(5, 5)
	for range 2 {
		var n []int
		var l []api.Act
		for i, a := range seq {
			n, l = append(n, i), append(l, a)
		}
		if !slices.Equal(n, []int{0, 1, 1, 1, 2, 2}) || !slices.Equal(l, []api.Act{store(3, 7), flush(0), fence(), store(9, 1), flush(1), fence()}) {
			t.Error(n, l)
		}
	}
	for i := range seq {
		if i > 1 {
			t.Error(i)
		}
		if i == 1 {
			break
		}
	}
	for range plan.Each(put(3, 7), put(-1, 1)) {
		t.Error("acts beside an error")
	}
}

// P8.2
func TestApplyAndRun(t *testing.T) {
	in := []uint64{1, 2, 3}
	got, e := plan.Apply(in, 2, put(0, 9), put(0, 8), put(7, 7))
	if e != api.OK || !slices.Equal(got, []uint64{8, 2, 3}) || in[0] != 1 {
		t.Error(got, e, in)
	}
	for _, many := range []int{-1, 4, 3, math.MaxInt} {
		if got, e := plan.Apply(in, many, put(0, 9), put(0, 8), put(7, 7)); len(got) > 0 || e != api.ErrRange {
			t.Error(many, got, e)
		}
	}
	for _, at := range []int{-1, 3, math.MaxInt} {
		if _, e := plan.Apply(in, 1, put(at, 9)); e != api.ErrRange {
			t.Error(at, e)
		}
	}
	m, _ := pmem.New(16)
	if plan.Run(nil, fence()) != api.ErrNil || plan.Run(&pmem.Memory{}) != api.ErrNil {
		t.Error("no memory")
	}
	for _, bad := range []api.Act{store(16, 1), flush(2), {}, store(-1, 1)} {
		if e := plan.Run(m, store(0, 5), bad); e != api.ErrArg || m.Image()[0] != 0 {
			t.Error(bad, e)
		}
	}
	if e := plan.Run(m, store(15, 5), store(0, 4), flush(1), fence()); e != api.OK || m.Lasting()[15] != 5 || m.Lasting()[0] != 0 || m.Image()[0] != 4 {
		t.Error(e)
	}
}

// P8.3, P8.4
func TestCrashKeepsTheOrder(t *testing.T) {
	r := rand.New(rand.NewSource(8))
	for range 300 {
		was := make([]uint64, 32)
		for i := range was {
			was[i] = r.Uint64()
		}
		var l []api.Put
		for range r.Intn(10) {
			l = append(l, put(r.Intn(32), r.Uint64()%4))
		}
		acts, _ := plan.Order(l...)
		if !plan.Ordered(acts...) || !slices.Equal(plan.Stores(acts...), l) {
			t.Fatal(l)
		}
		m, _ := pmem.Of(was)
		done, fenced := 0, 0
		for _, a := range acts[:r.Intn(len(acts)+1)] {
			plan.Run(m, a)
			if a.Kind == api.ActStore {
				done++
			}
			if a.Kind == api.ActFence {
				fenced = done
			}
			if r.Intn(4) == 0 {
				m.Evict(r.Intn(4))
			}
		}
		c, _ := m.Crash(byte(r.Intn(3)), byte(r.Intn(3)), byte(r.Intn(3)))
		ok := false
		for many := fenced; many <= done; many++ {
			words, _ := plan.Apply(was, many, l...)
			ok = ok || slices.Equal(words, c.Image())
		}
		if !ok {
			t.Fatal(l, acts)
		}
	}
}
