package script_test

import (
	"bytes"
	"math"
	"math/rand"
	"slices"
	"strings"
	"testing"

	"hedgerow/api"
	"hedgerow/layout"
	"hedgerow/model"
	"hedgerow/order"
	"hedgerow/script"
)

func pick(n int) api.Hap { return api.Hap{Kind: api.HapPick, Client: n} }

func evict(n int) api.Hap { return api.Hap{Kind: api.HapEvict, N: n} }

func mounts(n int) api.Hap { return api.Hap{Kind: api.HapMount, N: n} }

func crash(picks ...byte) api.Hap { return api.Hap{Kind: api.HapCrash, Picks: picks} }

func begin(n int, c api.Call) api.Hap { return api.Hap{Kind: api.HapBegin, Client: n, Call: c} }

func same(a, b api.Hap) bool {
	x, y := a.Call, b.Call
	return a.Kind == b.Kind && a.Client == b.Client && a.N == b.N && bytes.Equal(a.Picks, b.Picks) &&
		x.Kind == y.Kind && x.Path == y.Path && x.To == y.To && x.At == y.At && x.Many == y.Many && x.Key == y.Key && bytes.Equal(x.Bytes, y.Bytes)
}

func big() api.Hap {
	return begin(7, api.Call{Kind: 14, Path: strings.Repeat("p", 63), To: strings.Repeat("\xff", 63), At: 65535, Many: 65535, Key: math.MaxUint64, Bytes: bytes.Repeat([]byte{1}, 255)})
}

func good() []api.Hap {
	return []api.Hap{pick(0), pick(7), evict(0), evict(65535), mounts(1), mounts(256), crash(), crash(1, 2, 3, 4, 5, 6, 255), begin(0, api.Call{}), big(), begin(3, api.Call{Kind: 3, Path: "/a", At: 300, Key: 258, Bytes: []byte{9}})}
}

func bad() []api.Hap {
	out := []api.Hap{{}, {Kind: 6}, {Kind: -1}, {Kind: math.MinInt}, pick(8), pick(-1), evict(-1), evict(65536), mounts(0), mounts(257), mounts(-1), crash(1, 2, 3, 4, 5, 6, 7, 8)}
	for _, change := range []func(h *api.Hap){
		func(h *api.Hap) { h.Client = 8 }, func(h *api.Hap) { h.Client = -1 }, func(h *api.Hap) { h.Call.Kind = 15 }, func(h *api.Hap) { h.Call.Kind = -1 }, func(h *api.Hap) { h.Call.Path += "p" }, func(h *api.Hap) { h.Call.To += "p" },
		func(h *api.Hap) { h.Call.At = 65536 }, func(h *api.Hap) { h.Call.Many = -1 }, func(h *api.Hap) { h.Call.Bytes = make([]byte, 256) }, func(h *api.Hap) { h.N = 1 }, func(h *api.Hap) { h.Picks = []byte{0} },
	} {
		h := big()
		change(&h)
		out = append(out, h)
	}
	for _, h := range []api.Hap{evict(3), mounts(1), crash(1)} {
		h.Client = 1
		out = append(out, h)
	}
	other := pick(1)
	other.Call.Path = "x"
	third := pick(1)
	third.N = 1
	return append(out, other, third)
}

// P30.1, P30.3
func TestBytes(t *testing.T) {
	for _, h := range good() {
		raw, e := script.Raw(h)
		back := script.Haps(raw)
		if script.Check(h) != api.OK || e != api.OK || len(back) != 1 || !same(back[0], h) {
			t.Error(h, raw, e, back)
		}
		for n := range raw {
			if l := script.Haps(raw[:n]); len(l) != 0 {
				t.Error(h, n, l)
			}
		}
	}
	for i, h := range bad() {
		if raw, e := script.Raw(pick(1), h); script.Check(h) != api.ErrHap || len(raw) > 0 || e != api.ErrHap {
			t.Error(i, h, raw, e)
		}
	}
	raw, e := script.Raw(pick(2), evict(300), mounts(1))
	if e != api.OK || !bytes.Equal(raw, []byte{1, 2, 2, 0x2c, 1, 4, 0}) {
		t.Error(raw, e)
	}
	raw, _ = script.Raw(begin(3, api.Call{Kind: 3, Path: "/a", To: "b", At: 300, Many: 2, Key: 258, Bytes: []byte{9, 8}}))
	if !bytes.Equal(raw, []byte{0, 3, 3, 2, '/', 'a', 1, 'b', 0x2c, 1, 2, 0, 2, 1, 0, 0, 0, 0, 0, 0, 2, 9, 8}) {
		t.Error(raw)
	}
	if l := script.Haps([]byte{6, 10, 3, 2, 1}); len(l) != 1 || !same(l[0], pick(2)) {
		t.Error(l)
	}
	if l := script.Haps([]byte{8, 10, 1, 2, 255, 15, 16, 64, 65, 'x', 1, 0, 2, 0, 3, 0, 0, 0, 0, 0, 0, 0, 0, 4, 0xff}); len(l) != 3 || !same(l[0], crash(1, 2)) || !same(l[1], begin(7, api.Call{Kind: 1, To: "x", At: 1, Many: 2, Key: 3})) || !same(l[2], mounts(256)) {
		t.Error(l)
	}
	if raw, e := script.Raw(); len(raw) != 0 || e != api.OK || len(script.Haps(nil)) > 0 {
		t.Error(raw, e)
	}
}

// P30.1
func TestEach(t *testing.T) {
	raw, _ := script.Raw(pick(2), crash(7, 8), mounts(1))
	seq := script.Each(append(slices.Clone(raw), 0))
	for range 2 {
		var at []int
		for from, h := range seq {
			at = append(at, from)
			if h.Kind == api.HapCrash {
				h.Picks[0] = 99
			}
		}
		if !slices.Equal(at, []int{0, 2, 6}) {
			t.Error(at)
		}
	}
	for _, h := range seq {
		if h.Kind == api.HapCrash && h.Picks[0] == 99 {
			t.Error("picks are shared")
		}
	}
	for from := range seq {
		if from > 0 {
			t.Error(from)
		}
		break
	}
	in := slices.Clone(raw)
	kept := script.Each(in)
	in[1] = 5
	for _, h := range kept {
		if h.Client != 2 {
			t.Error("bytes are kept")
		}
		break
	}
}

// P30.3
func TestAnyBytes(t *testing.T) {
	r := rand.New(rand.NewSource(30))
	for range 2000 {
		raw := make([]byte, r.Intn(80))
		r.Read(raw)
		l := script.Haps(raw)
		back, e := script.Raw(l...)
		if e != api.OK {
			t.Fatal(raw, e)
		}
		again := script.Haps(back)
		if !slices.EqualFunc(l, again, same) {
			t.Fatal(raw, l, again)
		}
		for _, h := range l {
			if script.Check(h) != api.OK {
				t.Fatal(h)
			}
		}
	}
}

func form() api.Form { return api.Form{Blocks: 64, Inodes: 16, Records: 32, Bits: 6} }

// P30.2
func TestPlay(t *testing.T) {
	for f, want := range map[api.Form]api.Errno{{}: api.ErrArg, {Blocks: 32, Inodes: 4, Records: 64, Bits: 1}: api.ErrSpace} {
		if x, e := script.Play(f, [2]uint64{}, pick(1)); e != want || !script.Same(x, api.Lived{}) {
			t.Error(f, e)
		}
	}
	l := []api.Hap{begin(0, api.Call{Kind: api.CallCreate, Path: "/a"}), pick(1), {}}
	for range 60 {
		l = append(l, pick(0))
	}
	if first, e := script.Play(form(), [2]uint64{1, 2}, l[:4]...); e != api.OK || first.Refused != 2 {
		t.Error(first, e)
	}
	x, e := script.Play(form(), [2]uint64{1, 2}, l...)
	if e != api.OK || !x.Up || x.Refused < 3 || len(x.Moments) != 1 || x.Moments[0].Ended < 0 || len(x.Things) != 2 {
		t.Error(x, e)
	}
	down, e := script.Play(form(), [2]uint64{1, 2}, append(slices.Clone(l[:10]), crash(2, 2, 2))...)
	if e != api.OK || down.Up || !down.Moments[0].Lost || len(down.Things) != 1 {
		t.Error(down, e)
	}
	for i, change := range []func(x *api.Lived){
		func(x *api.Lived) { x.Up = false }, func(x *api.Lived) { x.Refused++ }, func(x *api.Lived) { x.Moments = nil }, func(x *api.Lived) { x.Things = x.Things[:1] }, func(x *api.Lived) { x.Moments[0].Read++ }, func(x *api.Lived) { x.Moments[0].Began++ }, func(x *api.Lived) { x.Moments[0].Ended++ }, func(x *api.Lived) { x.Moments[0].Client++ }, func(x *api.Lived) { x.Moments[0].Lost = true },
		func(x *api.Lived) { x.Moments[0].Answer.Inode++ }, func(x *api.Lived) { x.Moments[0].Call.Path = "" }, func(x *api.Lived) { x.Things[1].Links++ }, func(x *api.Lived) { x.Things[0].Names[0].Key++ },
	} {
		y, _ := script.Play(form(), [2]uint64{1, 2}, l...)
		if !script.Same(x, y) {
			t.Fatal(i)
		}
		change(&y)
		if script.Same(x, y) {
			t.Error(i)
		}
	}
}

// P30.4
func TestLives(t *testing.T) {
	r := rand.New(rand.NewSource(31))
	for round := range 12 {
		raw := []byte{}
		for range 1500 {
			switch n := r.Intn(60); {
			case n == 0 && round%2 == 1:
				raw = append(raw, 3, byte(r.Intn(3)), 1, 2)
			case n < 4 && round%2 == 1:
				raw = append(raw, 4, byte(r.Intn(256)))
			case n < 8:
				h, _ := script.Raw(begin(r.Intn(8), api.Call{Kind: api.CallKind(r.Intn(15)), Path: "/" + string(rune('a'+r.Intn(4))), To: "/" + string(rune('a'+r.Intn(4))), Many: 3, Bytes: []byte("abc")}))
				raw = append(raw, h...)
			default:
				raw = append(raw, 1, byte(r.Intn(8)))
			}
		}
		l := script.Haps(raw)
		if round%2 == 0 {
			for i := range 8000 {
				l = append(l, pick(i%8))
			}
		}
		x, e := script.Play(form(), [2]uint64{1, 2}, l...)
		y, f := script.Play(form(), [2]uint64{1, 2}, l...)
		if e != api.OK || f != api.OK || !script.Same(x, y) {
			t.Fatal(e, f)
		}
		if round%2 == 1 || len(x.Moments) > 64 {
			continue
		}
		lay, _ := layout.Of(form(), [2]uint64{1, 2})
		m, _ := model.New(lay)
		list, e := order.Reads(x.Moments)
		if e != api.OK || order.Check(m, x.Moments, list...) != api.OK {
			t.Fatal(e)
		}
		if len(list) == len(x.Moments) {
			b, _ := order.Behind(m, x.Moments, list...)
			if got, _ := model.Of(lay, x.Things...); !model.Same(b, got) {
				t.Fatal("another state")
			}
		}
	}
}
