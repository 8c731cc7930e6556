package pmem_test

import (
	"math"
	"math/rand"
	"slices"
	"testing"

	"hedgerow/api"
	"hedgerow/pmem"
)

func made(t *testing.T, words int) *pmem.Memory {
	t.Helper()
	m, e := pmem.New(words)
	if e != api.OK {
		t.Fatal(words, e)
	}
	return m
}

// P7.1
func TestMaking(t *testing.T) {
	for words, want := range map[int]api.Errno{8: api.OK, 131072: api.OK, 16: api.OK, 0: api.ErrArg, 12: api.ErrArg, -8: api.ErrArg, 131080: api.ErrArg, math.MaxInt: api.ErrArg, math.MinInt: api.ErrArg} {
		m, e := pmem.New(words)
		if e != want || (m == nil) == (e == api.OK) {
			t.Error(words, e)
		}
		if e == api.OK && (m.Len() != words || len(m.Image()) != words || slices.Max(m.Lasting()) != 0) {
			t.Error(words)
		}
	}
	in := []uint64{1, 2, 3, 4, 5, 6, 7, 8}
	m, e := pmem.Of(in)
	in[0] = 9
	if e != api.OK || m.Image()[0] != 1 || m.Lasting()[7] != 8 {
		t.Error(e)
	}
	m.Image()[1] = 77
	if v, _ := m.Load(1); v != 2 {
		t.Error("an answer is shared")
	}
	for range m.Open() {
		t.Error("an open line of what was made")
	}
	if m, e := pmem.Of(in[:7]); m != nil || e != api.ErrArg {
		t.Error(e)
	}
}

// P7.2
func TestSteps(t *testing.T) {
	m := made(t, 16)
	for _, at := range []int{-1, 16, math.MaxInt, math.MinInt} {
		if v, e := m.Load(at); v != 0 || e != api.ErrRange {
			t.Error(at, e)
		}
		if e := m.Store(at, 1); e != api.ErrRange {
			t.Error(at, e)
		}
	}
	for _, line := range []int{-1, 2, math.MaxInt} {
		if m.Flush(line) != api.ErrRange || m.Evict(line) != api.ErrRange {
			t.Error(line)
		}
	}
	m.Store(15, 7)
	if v, e := m.Load(15); v != 7 || e != api.OK || m.Lasting()[15] != 0 {
		t.Error(v, e)
	}
	m.Flush(1)
	m.Store(15, 8)
	m.Flush(1)
	if m.Lasting()[15] != 0 {
		t.Error("a flush alone lasts")
	}
	m.Fence()
	if m.Lasting()[15] != 8 {
		t.Error("a flush in the place of one is not what lasts")
	}
	m.Store(15, 9)
	m.Fence()
	if m.Lasting()[15] != 8 {
		t.Error("something is queued behind a fence")
	}
	m.Flush(1)
	m.Store(15, 10)
	m.Evict(1)
	m.Fence()
	if m.Lasting()[15] != 10 {
		t.Error("something is queued behind an evict")
	}
}

// P7.3
func TestOpenAndCrash(t *testing.T) {
	m := made(t, 16)
	m.Store(3, 7)
	m.Flush(0)
	m.Store(3, 8)
	for pick, want := range []uint64{0, 7, 8, 0, 7, 8} {
		c, e := m.Crash(byte(pick))
		if v, _ := c.Load(3); v != want || e != api.OK || c.Lasting()[3] != want {
			t.Error(pick, v, e)
		}
		for range c.Open() {
			t.Error("an open line behind a crash")
		}
	}
	if c, _ := m.Crash(); c.Image()[3] != 0 {
		t.Error("no pick is none of 0")
	}
	if v, _ := m.Load(3); v != 8 {
		t.Error("the one that crashed does not stay")
	}
	seq := m.Open()
	m.Fence()
	if m.Lasting()[3] != 7 || !slices.Equal(slices.Collect(seq), []int{0}) || !slices.Equal(slices.Collect(m.Open()), []int{0}) {
		t.Error("open")
	}
	m.Evict(0)
	if l := slices.Collect(m.Open()); len(l) > 0 {
		t.Error(l)
	}
	// What stands there lasts, but another content is queued: open too.
	m.Store(3, 99)
	m.Flush(0)
	m.Store(3, 7+1)
	if l := slices.Collect(m.Open()); !slices.Equal(l, []int{0}) {
		t.Error(l)
	}
	// Nothing is queued: pick 1 keeps what lasts; picks go by open lines.
	m = made(t, 32)
	m.Store(9, 1)
	m.Store(30, 2)
	if c, _ := m.Crash(1, 2); c.Image()[9] != 0 || c.Image()[30] != 2 {
		t.Error("picks")
	}
	for i := range m.Open() {
		if i != 1 {
			t.Error(i)
		}
		break
	}
}

// P7.4
func TestCopyAndSame(t *testing.T) {
	m := made(t, 16)
	m.Store(1, 5)
	m.Flush(0)
	c := m.Copy()
	if !pmem.Same(m, c) {
		t.Error("a copy is another one")
	}
	c.Fence()
	if pmem.Same(m, c) || m.Lasting()[1] != 0 {
		t.Error("a copy does not go on apart")
	}
	d := m.Copy()
	d.Flush(1)
	if pmem.Same(m, d) || pmem.Same(d, m) {
		t.Error("what is queued is not asked")
	}
	d = made(t, 16)
	d.Store(1, 4)
	d.Flush(0)
	d.Store(1, 5)
	if pmem.Same(m, d) {
		t.Error("another content is queued")
	}
	lasts := m.Copy()
	lasts.Store(9, 1)
	stands := lasts.Copy()
	stands.Evict(1)
	if pmem.Same(m, lasts) || pmem.Same(lasts, stands) {
		t.Error("what stands there, or what lasts, is not asked")
	}
	fenced, evicted := made(t, 16), made(t, 16)
	fenced.Store(1, 5)
	fenced.Flush(0)
	fenced.Fence()
	evicted.Store(1, 5)
	evicted.Evict(0)
	if !pmem.Same(fenced, evicted) {
		t.Error("something is queued behind a fence")
	}
	if pmem.Same(m, nil) || pmem.Same(nil, m) || !pmem.Same(nil, nil) || pmem.Same(made(t, 8), made(t, 16)) {
		t.Error("same")
	}
	for _, none := range []*pmem.Memory{nil, {}} {
		if none.Store(-1, 0) != api.ErrNil || none.Flush(-1) != api.ErrNil || none.Fence() != api.ErrNil || none.Evict(9) != api.ErrNil || none.Len() != 0 || len(none.Image()) > 0 || len(none.Lasting()) > 0 || none.Copy() != nil || !pmem.Same(none, nil) {
			t.Error("none")
		}
		if v, e := none.Load(0); v != 0 || e != api.ErrNil {
			t.Error(e)
		}
		if c, e := none.Crash(1); c != nil || e != api.ErrNil {
			t.Error(e)
		}
		for range none.Open() {
			t.Error("an open line of none")
		}
	}
}

// P7.5: each line has a content that it had since it surely lasted.
func TestCrashKeepsWhatWas(t *testing.T) {
	r := rand.New(rand.NewSource(7))
	type content [api.LineWords]uint64
	for range 300 {
		m := made(t, 32)
		had := make([][]content, 4)
		flushed := make([]int, 4)
		for i := range had {
			had[i], flushed[i] = []content{{}}, -1
		}
		for step := range r.Intn(40) {
			line := r.Intn(4)
			switch r.Intn(6) {
			case 0, 1, 2:
				at := line*8 + r.Intn(8)
				m.Store(at, uint64(step+1))
				now := had[line][len(had[line])-1]
				now[at%8] = uint64(step + 1)
				had[line] = append(had[line], now)
			case 3:
				m.Flush(line)
				flushed[line] = len(had[line]) - 1
			case 4:
				m.Fence()
				for i, n := range flushed {
					if n >= 0 {
						had[i], flushed[i] = had[i][n:], -1
					}
				}
			case 5:
				m.Evict(line)
				had[line], flushed[line] = had[line][len(had[line])-1:], -1
			}
		}
		c, _ := m.Crash(byte(r.Intn(256)), byte(r.Intn(256)), byte(r.Intn(256)), byte(r.Intn(256)))
		image := c.Image()
		for i := range had {
			if !slices.Contains(had[i], content(image[8*i:8*i+8])) {
				t.Fatal(i, image[8*i:8*i+8], had[i])
			}
		}
	}
}
