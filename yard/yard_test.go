package yard_test

import (
	"bytes"
	"math"
	"math/rand"
	"slices"
	"strconv"
	"testing"

	"hedgerow/api"
	"hedgerow/image"
	"hedgerow/model"
	"hedgerow/mount"
	"hedgerow/plan"
	"hedgerow/pmem"
	"hedgerow/yard"
)

func words(t *testing.T, bits int) []uint64 {
	t.Helper()
	w, e := mount.Make(api.Form{Blocks: 64, Inodes: 32, Records: 64, Bits: bits}, [2]uint64{1, 2})
	if e != api.OK {
		t.Fatal(e)
	}
	return w
}

func made(t *testing.T) *yard.Yard {
	t.Helper()
	y, e := yard.New(words(t, 8))
	if e != api.OK {
		t.Fatal(e)
	}
	return y
}

func begin(client int, c api.Call) api.Hap {
	return api.Hap{Kind: api.HapBegin, Client: client, Call: c}
}

func pick(client int) api.Hap { return api.Hap{Kind: api.HapPick, Client: client} }

func mounts(n int) api.Hap { return api.Hap{Kind: api.HapMount, N: n} }

func crash(picks ...byte) api.Hap { return api.Hap{Kind: api.HapCrash, Picks: picks} }

func mkdir(path string) api.Call { return api.Call{Kind: api.CallMkdir, Path: path} }

type row struct {
	h   api.Hap
	did api.DidKind
	e   api.Errno
}

func play(t *testing.T, y *yard.Yard, rows ...row) {
	t.Helper()
	for i, r := range rows {
		was := y.Haps()
		did, e := y.Do(r.h)
		if did != r.did || e != r.e || (y.Haps() == was+1) != (e == api.OK) {
			t.Error(i, r, did, e, y.Haps())
		}
	}
}

// P27.1, P27.2
func TestExamples(t *testing.T) {
	y := made(t)
	play(t, y,
		row{begin(0, mkdir("/a")), 0, api.OK}, row{pick(0), api.DidAsk, api.OK}, row{pick(0), api.DidRead, api.OK}, row{crash(), 0, api.OK}, row{pick(0), 0, api.ErrDown},
	)
	if y.Up() || y.Left() != 0 || len(y.Held()) > 0 {
		t.Error("up")
	}
	play(t, y, row{begin(0, mkdir("/a")), 0, api.ErrDown}, row{mounts(0), 0, api.ErrArg}, row{mounts(9), 0, api.OK}, row{mounts(9), 0, api.ErrUp}, row{mounts(0), 0, api.ErrUp})
	h := y.History()
	if len(h) != 1 || h[0].Client != 0 || h[0].Began != 0 || h[0].Read != 2 || h[0].Ended != -1 || !h[0].Lost || h[0].Call.Path != "/a" || !y.Up() {
		t.Error(h)
	}
}

// P27.1
func TestErrors(t *testing.T) {
	if y, e := yard.New(nil); y != nil || e != api.ErrSuper {
		t.Error(e)
	}
	w := words(t, 8)
	w[9*64+16*4] = 257
	if y, e := yard.New(w); y != nil || e != api.ErrState {
		t.Error(e)
	}
	if y, e := yard.Play(w, pick(0)); y != nil || e != api.ErrState {
		t.Error(e)
	}
	y := made(t)
	play(t, y,
		row{api.Hap{}, 0, api.ErrArg}, row{api.Hap{Kind: 6}, 0, api.ErrArg}, row{api.Hap{Kind: -1}, 0, api.ErrArg}, row{begin(8, mkdir("/")), 0, api.ErrArg}, row{begin(-1, mkdir("/")), 0, api.ErrArg}, row{pick(8), 0, api.ErrArg}, row{pick(math.MinInt), 0, api.ErrArg}, row{pick(3), 0, api.ErrNone},
		row{begin(3, mkdir("/a")), 0, api.OK}, row{begin(3, mkdir("/a")), 0, api.ErrTwice}, row{api.Hap{Kind: api.HapEvict, N: -1}, 0, api.ErrRange}, row{api.Hap{Kind: api.HapEvict, N: 512}, 0, api.ErrRange}, row{api.Hap{Kind: api.HapEvict, N: 511, Client: 99}, 0, api.OK}, row{mounts(1), 0, api.ErrUp},
		row{crash(), 0, api.OK}, row{begin(8, mkdir("/")), 0, api.ErrArg}, row{begin(1, mkdir("/")), 0, api.ErrDown}, row{pick(8), 0, api.ErrArg}, row{pick(1), 0, api.ErrDown}, row{api.Hap{Kind: api.HapEvict, N: 0}, 0, api.OK}, row{crash(), 0, api.OK}, row{mounts(-5), 0, api.ErrArg}, row{mounts(math.MaxInt), 0, api.OK},
	)
	for _, none := range []*yard.Yard{nil, {}} {
		did, e := none.Do(api.Hap{})
		if did != 0 || e != api.ErrNil || none.Up() || len(none.History()) > 0 || none.Memory() != nil || none.Haps() != 0 || none.Left() != 0 || len(none.Held()) > 0 || none.Copy() != nil {
			t.Error("none")
		}
	}
}

// P27.1
func TestMaxHaps(t *testing.T) {
	y := made(t)
	for range api.MaxHaps {
		if _, e := y.Do(api.Hap{Kind: api.HapEvict}); e != api.OK {
			t.Fatal(e)
		}
	}
	if _, e := y.Do(api.Hap{}); e != api.ErrLong || y.Haps() != api.MaxHaps {
		t.Error(e)
	}
}

// P27.1: what is put right, act by act, planned once.
func TestMountStepwise(t *testing.T) {
	y := made(t)
	play(t, y, row{begin(0, mkdir("/a")), 0, api.OK}, row{pick(0), api.DidAsk, api.OK}, row{pick(0), api.DidRead, api.OK})
	for range 95 {
		play(t, y, row{pick(0), api.DidAct, api.OK})
	}
	y.Do(crash(2, 2, 2, 2))
	other := y.Copy()
	right, e := mount.Right(y.Memory().Image())
	if e != api.OK || len(right) == 0 {
		t.Fatal("the test's own life", e, right)
	}
	y.Do(mounts(1))
	left := y.Left()
	if y.Up() || left == 0 {
		t.Error(left)
	}
	for n := left; n > 0; n-- {
		if y.Left() != n || y.Up() {
			t.Error(n, y.Left())
		}
		y.Do(mounts(1))
	}
	if !y.Up() || mount.Neat(y.Memory().Image()) != api.OK {
		t.Error("not neat")
	}
	other.Do(mounts(1000))
	if !pmem.Same(other.Memory(), y.Memory()) || !other.Up() {
		t.Error("at once is not step by step")
	}
}

// P27.1: what is put right is planned at the first mount behind a crash, once; what ended is not lost.
func TestPlannedOnce(t *testing.T) {
	y := made(t)
	play(t, y, row{crash(), 0, api.OK}, row{mounts(1), 0, api.OK})
	run := func(c api.Call, steps int) {
		y.Do(begin(0, c))
		for range steps {
			y.Do(pick(0))
		}
	}
	run(mkdir("/a"), 200)
	run(mkdir("/b"), 200)
	play(t, y, row{crash(), 0, api.OK})
	if h := y.History(); len(h) != 2 || h[0].Lost || h[1].Lost || h[0].Ended < 0 || y.Up() {
		t.Error(h)
	}
	play(t, y, row{mounts(1), 0, api.OK})
	// The redo is in the journal, and nothing of it is done.
	rename := api.Call{Kind: api.CallRename, Path: "/a", To: "/b/c"}
	steps := 0
	for c := y.Copy(); ; steps++ {
		c.Do(begin(0, rename))
		if _, has := c.Memory().Load(64); has != api.OK {
			t.Fatal(has)
		}
		if v, _ := c.Memory().Load(64); v != 0 {
			break
		}
		c.Do(pick(0))
	}
	run(rename, steps)
	y.Do(crash(2, 2, 2, 2, 2, 2, 2, 2))
	right, _ := mount.Right(y.Memory().Image())
	acts, _ := plan.Order(right...)
	for n := range acts {
		play(t, y, row{mounts(1), 0, api.OK})
		if y.Left() != len(acts)-1-n || y.Up() != (n == len(acts)-1) {
			t.Fatal(n, y.Left(), len(acts))
		}
	}
	if !y.History()[2].Lost || mount.Neat(y.Memory().Image()) != api.OK || len(acts) < 20 {
		t.Error(y.History(), len(acts))
	}
}

// P27.2
func TestCopyAndMemory(t *testing.T) {
	y := made(t)
	y.Do(begin(2, api.Call{Kind: api.CallCreate, Path: "/f"}))
	y.Do(pick(2))
	c := y.Copy()
	for c.History()[0].Ended < 0 {
		c.Do(pick(2))
	}
	if y.Haps() != 2 || !slices.Equal(y.Held(), []api.Turn{{Client: 2, Write: true}}) || len(c.Held()) != 0 || pmem.Same(y.Memory(), c.Memory()) || c.History()[0].Answer.Inode != 2 {
		t.Error("a copy does not go on apart")
	}
	y.Memory().Store(0, 0)
	if v, _ := y.Memory().Load(0); v != api.Super {
		t.Error("the memory is handed out")
	}
	in := []byte("abc")
	y.Do(begin(3, api.Call{Kind: api.CallWrite, Path: "/f", Bytes: in}))
	in[0] = 'z'
	h := y.History()
	h[1].Call.Bytes[1] = 'z'
	if string(y.History()[1].Call.Bytes) != "abc" {
		t.Error("a call is shared")
	}
	c.Do(begin(0, api.Call{Kind: api.CallReaddir, Path: "/", Many: 9}))
	for range 3 {
		c.Do(pick(0))
	}
	h = c.History()
	d := c.Copy()
	h[1].Answer.Names[0].Name = "changed"
	if c.History()[1].Answer.Names[0].Name != "f" || d.History()[1].Answer.Names[0].Name != "f" {
		t.Error("an answer is shared")
	}
}

func someHap(r *rand.Rand, crashes bool) api.Hap {
	path := func() string {
		p := "/" + strconv.Itoa(r.Intn(6))
		if r.Intn(2) == 0 {
			p += "/" + strconv.Itoa(r.Intn(6))
		}
		return p
	}
	switch n := r.Intn(200); {
	case n < 12:
		return begin(r.Intn(8), api.Call{Kind: api.CallKind(1 + r.Intn(14)), Path: path(), To: path(), At: r.Intn(700), Many: r.Intn(9), Bytes: bytes.Repeat([]byte{byte(r.Intn(4))}, r.Intn(700))})
	case n < 14:
		return api.Hap{Kind: api.HapEvict, N: r.Intn(512)}
	case n == 14 && crashes:
		return crash(byte(r.Intn(3)), byte(r.Intn(3)), byte(r.Intn(3)))
	case n < 20 && crashes:
		return mounts(1 + r.Intn(20))
	}
	return pick(r.Intn(8))
}

func modelOf(t *testing.T, m *pmem.Memory) *model.Model {
	t.Helper()
	_, x, e := mount.Mount(m.Image())
	if e != api.OK {
		t.Fatal(e)
	}
	got, e := model.Of(x.Layout, x.Things...)
	if e != api.OK {
		t.Fatal(e)
	}
	return got
}

// byReads tells the moments that read, in that order.
func byReads(h []api.Moment, from int) []api.Moment {
	var out []api.Moment
	for _, x := range h[from:] {
		if x.Read >= 0 {
			out = append(out, x)
		}
	}
	slices.SortFunc(out, func(a, b api.Moment) int { return a.Read - b.Read })
	return out
}

// P27.3, P27.4
func TestLives(t *testing.T) {
	r := rand.New(rand.NewSource(27))
	for round := range 8 {
		y, _ := yard.New(words(t, 1+4*round))
		m := modelOf(t, y.Memory())
		seen := 0
		for range 6000 {
			h := someHap(r, round > 1)
			wasUp := y.Up()
			y.Do(h)
			if wasUp || !y.Up() {
				continue
			}
			m = checkUp(t, y, m, seen)
			seen = len(y.History())
		}
		for _, x := range byReads(y.History(), seen) {
			if x.Ended < 0 || x.Answer.Errno == api.ErrSpace {
				continue
			}
			if a := m.Do(x.Call); !model.SameAnswer(a, x.Answer) {
				t.Fatal(x, a)
			}
		}
	}
}

// checkUp looks at a yard that came up: it has all calls that had ended, and none or one more.
func checkUp(t *testing.T, y *yard.Yard, m *model.Model, seen int) *model.Model {
	t.Helper()
	if mount.Neat(y.Memory().Image()) != api.OK {
		t.Fatal("not neat")
	}
	got := modelOf(t, y.Memory())
	ended := m.Copy()
	var open []api.Call
	for _, x := range byReads(y.History(), seen) {
		switch {
		case x.Ended < 0:
			open = append(open, x.Call)
		case x.Answer.Errno != api.ErrSpace:
			if a := ended.Do(x.Call); !model.SameAnswer(a, x.Answer) {
				t.Fatal(x, a)
			}
		}
	}
	if model.Same(got, ended) {
		return got
	}
	for _, c := range open {
		one := ended.Copy()
		one.Do(c)
		if model.Same(got, one) {
			return got
		}
	}
	t.Fatal("neither all that ended, nor one more")
	return nil
}

// P27.5
func TestAllEnds(t *testing.T) {
	r := rand.New(rand.NewSource(28))
	y := made(t)
	for range 3000 {
		y.Do(someHap(r, false))
	}
	for range 20000 {
		for c := range 8 {
			y.Do(pick(c))
		}
		if !slices.ContainsFunc(y.History(), func(x api.Moment) bool { return x.Ended < 0 }) {
			break
		}
	}
	for _, x := range y.History() {
		if x.Ended < 0 {
			t.Fatal(x, "does not end")
		}
	}
	if len(y.Held()) != 0 {
		t.Error("somebody holds the latch")
	}
	if _, e := image.View(y.Memory().Image()); e != api.OK {
		t.Error(e)
	}
	again, e := yard.Play(words(t, 8), api.Hap{}, pick(0), begin(0, mkdir("/a")), pick(0))
	if e != api.OK || again.Haps() != 2 {
		t.Error(again.Haps(), e)
	}
}
