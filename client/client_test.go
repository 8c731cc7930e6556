package client_test

import (
	"bytes"
	"math"
	"math/rand"
	"slices"
	"strconv"
	"testing"

	"hedgerow/api"
	"hedgerow/client"
	"hedgerow/deed"
	"hedgerow/latch"
	"hedgerow/model"
	"hedgerow/mount"
	"hedgerow/plan"
	"hedgerow/pmem"
)

func memory(t *testing.T) *pmem.Memory {
	t.Helper()
	w, e := mount.Make(api.Form{Blocks: 60, Inodes: 32, Records: 64, Bits: 8}, [2]uint64{1, 2})
	if e != api.OK {
		t.Fatal(e)
	}
	m, e := pmem.Of(w)
	if e != api.OK {
		t.Fatal(e)
	}
	return m
}

func made(t *testing.T, n int) *client.Client {
	t.Helper()
	c, e := client.New(n)
	if e != api.OK {
		t.Fatal(e)
	}
	return c
}

func call(k api.CallKind, path string) api.Call { return api.Call{Kind: k, Path: path} }

// P26.1
func TestSteps(t *testing.T) {
	for _, n := range []int{-1, 8, math.MaxInt} {
		if c, e := client.New(n); c != nil || e != api.ErrArg {
			t.Error(n, e)
		}
	}
	c, m, l := made(t, 0), memory(t), latch.New()
	if did, e := c.Step(m, l); did != api.DidNothing || e != api.ErrNone {
		t.Error(did, e)
	}
	if e := c.Begin(call(api.CallLookup, "/a")); e != api.OK || c.Begin(call(api.CallLookup, "/a")) != api.ErrTwice || c.Phase() != api.PhaseAsks {
		t.Error(e)
	}
	for _, bad := range []func() (api.DidKind, api.Errno){
		func() (api.DidKind, api.Errno) { return c.Step(nil, l) }, func() (api.DidKind, api.Errno) { return c.Step(m, nil) }, func() (api.DidKind, api.Errno) { return c.Step(&pmem.Memory{}, l) }, func() (api.DidKind, api.Errno) { return c.Step(m, &latch.Latch{}) },
	} {
		if did, e := bad(); did != api.DidNothing || e != api.ErrNil {
			t.Error(did, e)
		}
	}
	for i, want := range []struct {
		did   api.DidKind
		e     api.Errno
		phase api.PhaseKind
	}{{api.DidAsk, api.OK, api.PhaseWaits}, {api.DidRead, api.OK, api.PhaseStores}, {api.DidEnd, api.OK, api.PhaseIdle}, {api.DidNothing, api.ErrNone, api.PhaseIdle}} {
		if did, e := c.Step(m, l); did != want.did || e != want.e || c.Phase() != want.phase {
			t.Error(i, did, e, c.Phase())
		}
	}
	if a, is := c.Answer(); a.Errno != api.ErrNoEnt || !is || len(l.Held()) > 0 {
		t.Error(a, is)
	}
	if c.Begin(call(api.CallCreate, "/a")) != api.OK {
		t.Error("begin")
	}
	if a, is := c.Answer(); !model.SameAnswer(a, api.Answer{}) || is {
		t.Error(a, is)
	}
}

// P26.1: waiting, and the latch's errors.
func TestWaits(t *testing.T) {
	m, l := memory(t), latch.New()
	c, d := made(t, 1), made(t, 2)
	d.Begin(call(api.CallCreate, "/d"))
	c.Begin(call(api.CallLookup, "/d"))
	d.Step(m, l)
	c.Step(m, l)
	if held := l.Held(); !slices.Equal(held, []api.Turn{{Client: 2, Write: true}}) {
		t.Error(held)
	}
	for range 3 {
		if did, e := c.Step(m, l); did != api.DidNothing || e != api.OK || c.Phase() != api.PhaseWaits {
			t.Error(did, e)
		}
	}
	_, stores := deed.Do(m.Image(), 2, call(api.CallCreate, "/d"))
	acts, _ := plan.Order(stores...)
	if did, _ := d.Step(m, l); did != api.DidRead || !slices.Equal(d.Left(), acts) {
		t.Error(did)
	}
	for i := range acts {
		was := m.Copy()
		if did, e := d.Step(m, l); did != api.DidAct || e != api.OK || !slices.Equal(d.Left(), acts[i+1:]) {
			t.Error(i, did, e)
		}
		plan.Run(was, acts[i])
		if !pmem.Same(was, m) {
			t.Error(i, "another act")
		}
		if did, _ := c.Step(m, l); did != api.DidNothing {
			t.Error("it reads beside a writer")
		}
	}
	if did, _ := d.Step(m, l); did != api.DidEnd {
		t.Error(did)
	}
	c.Step(m, l)
	c.Step(m, l)
	if a, _ := c.Answer(); a.Inode != 2 {
		t.Error(a)
	}
	// Somebody has asked in its name: nothing is done.
	l.Ask(1, true)
	c.Begin(call(api.CallLookup, "/d"))
	if did, e := c.Step(m, l); did != api.DidNothing || e != api.ErrTwice || c.Phase() != api.PhaseAsks {
		t.Error(did, e)
	}
	l.Free(1)
	// An act at a word that is not there is left out.
	c.Lose()
	c.Begin(call(api.CallCreate, "/e"))
	c.Step(m, l)
	c.Step(m, l)
	few, _ := pmem.New(8)
	n := len(c.Left())
	if did, e := c.Step(few, l); did != api.DidAct || e != api.ErrArg || len(c.Left()) != n-1 {
		t.Error(did, e)
	}
}

// P26.1, P26.2
func TestLoseCopyNone(t *testing.T) {
	m, l := memory(t), latch.New()
	c := made(t, 3)
	in := []byte("abc")
	c.Begin(api.Call{Kind: api.CallWrite, Path: "/f", Bytes: in})
	in[0] = 'z'
	c.Step(m, l)
	was := m.Copy()
	c.Begin(api.Call{Kind: api.CallCreate})
	c.Step(m, l)
	if v, _ := m.Load(0); !pmem.Same(was, m) || v != api.Super {
		t.Error("something is stored ahead of its time")
	}
	if c.Lose() != api.OK || c.Phase() != api.PhaseIdle || len(c.Left()) > 0 || !l.Holds(3) {
		t.Error("lose")
	}
	l.Free(3)
	client.Run(m, 0, call(api.CallCreate, "/f"))
	c.Begin(api.Call{Kind: api.CallWrite, Path: "/f", Bytes: []byte("abc")})
	c.Step(m, l)
	c.Step(m, l)
	d := c.Copy()
	other, wait := m.Copy(), l.Copy()
	for d.Phase() != api.PhaseIdle {
		d.Step(other, wait)
	}
	if c.Phase() != api.PhaseStores || len(c.Left()) == 0 {
		t.Error("a copy does not go on apart")
	}
	for c.Phase() != api.PhaseIdle {
		c.Step(m, l)
	}
	a, _ := c.Answer()
	b, _ := d.Answer()
	if !model.SameAnswer(a, b) || !pmem.Same(m, other) || a.Size != 3 {
		t.Error(a, b)
	}
	c.Begin(api.Call{Kind: api.CallReaddir, Path: "/", Many: 9})
	for c.Phase() != api.PhaseIdle {
		c.Step(m, l)
	}
	names, _ := c.Answer()
	names.Names[0].Name = "changed"
	if again, _ := c.Answer(); again.Names[0].Name != "f" {
		t.Error("an answer is shared")
	}
	in = []byte("xyz")
	c.Begin(api.Call{Kind: api.CallWrite, Path: "/f", Bytes: in})
	in[0] = '-'
	for c.Phase() != api.PhaseIdle {
		c.Step(m, l)
	}
	if a, _ := client.Run(m, 0, api.Call{Kind: api.CallRead, Path: "/f", Many: 9}); string(a[0].Bytes) != "xyz" {
		t.Error("a call's bytes are shared")
	}
	c.Lose()
	if _, is := c.Answer(); is {
		t.Error("an answer behind Lose")
	}
	for _, none := range []*client.Client{nil, {}} {
		did, e := none.Step(m, l)
		a, is := none.Answer()
		if none.Begin(api.Call{}) != api.ErrNil || did != 0 || e != api.ErrNil || none.Lose() != api.ErrNil || !model.SameAnswer(a, api.Answer{}) || is || none.Phase() != api.PhaseIdle || len(none.Left()) > 0 || none.Copy() != nil {
			t.Error("none")
		}
	}
}

// P26.3, P26.4, P26.5
func TestRun(t *testing.T) {
	if a, e := client.Run(nil, 9); len(a) > 0 || e != api.ErrNil {
		t.Error(e)
	}
	if a, e := client.Run(memory(t), 8); len(a) > 0 || e != api.ErrArg {
		t.Error(e)
	}
	r := rand.New(rand.NewSource(26))
	m := memory(t)
	words := m.Image()
	var l []api.Call
	for range 60 {
		l = append(l, api.Call{Kind: api.CallKind(1 + r.Intn(14)), Path: "/" + strconv.Itoa(r.Intn(9)), To: "/" + strconv.Itoa(r.Intn(9)), At: r.Intn(600), Many: 5, Bytes: bytes.Repeat([]byte{1}, r.Intn(600))})
	}
	got, e := client.Run(m, 5, l...)
	if e != api.OK || len(got) != len(l) {
		t.Fatal(e)
	}
	for i, c := range l {
		a, s := deed.Do(words, 5, c)
		if !model.SameAnswer(a, got[i]) {
			t.Fatal(i, a, got[i])
		}
		for _, p := range s {
			words[p.At] = p.Value
		}
	}
	if !slices.Equal(m.Image(), words) || !slices.Equal(m.Lasting(), words) {
		t.Error("another memory")
	}
	for range m.Open() {
		t.Error("an open line")
	}
	c, own := made(t, 0), latch.New()
	c.Begin(call(api.CallMkdir, "/new"))
	c.Step(m, own)
	c.Step(m, own)
	n, steps := len(c.Left()), 1
	for c.Phase() != api.PhaseIdle {
		c.Step(m, own)
		steps++
	}
	if steps != n+2 {
		t.Error(steps, n)
	}
}
