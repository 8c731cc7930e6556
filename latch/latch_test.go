package latch_test

import (
	"math"
	"math/rand"
	"slices"
	"testing"

	"hedgerow/api"
	"hedgerow/latch"
)

func turn(client int, write bool) api.Turn { return api.Turn{Client: client, Write: write} }

func waits(l *latch.Latch) []api.Turn {
	var out []api.Turn
	for i, t := range l.Waits() {
		if i != len(out) {
			return nil
		}
		out = append(out, t)
	}
	return out
}

// P25.1, P25.2
func TestTurns(t *testing.T) {
	l := latch.New()
	if len(l.Held()) > 0 || len(waits(l)) > 0 {
		t.Error("new")
	}
	for _, x := range []api.Turn{turn(1, false), turn(2, true), turn(3, false)} {
		if e := l.Ask(x.Client, x.Write); e != api.OK {
			t.Error(e)
		}
	}
	if !slices.Equal(l.Held(), []api.Turn{turn(1, false)}) || !slices.Equal(waits(l), []api.Turn{turn(2, true), turn(3, false)}) || !l.Holds(1) || l.Holds(2) {
		t.Error(l.Held(), waits(l))
	}
	for client, want := range map[int]api.Errno{1: api.ErrTwice, 3: api.ErrTwice, 8: api.ErrArg, -1: api.ErrArg, math.MaxInt: api.ErrArg} {
		if e := l.Ask(client, false); e != want {
			t.Error(client, e)
		}
	}
	for client, want := range map[int]api.Errno{5: api.ErrNone, 8: api.ErrArg, -1: api.ErrArg} {
		if e := l.Free(client); e != want || l.Holds(client) {
			t.Error(client, e)
		}
	}
	c, d := l.Copy(), l.Copy()
	seq := l.Waits()
	if l.Free(1) != api.OK || !slices.Equal(l.Held(), []api.Turn{turn(2, true)}) {
		t.Error(l.Held())
	}
	for range 2 {
		n := 0
		for i, x := range seq {
			if i != n || x.Client != 2+i {
				t.Error(i, x)
			}
			n++
		}
		if n != 2 {
			t.Error(n)
		}
	}
	for i := range seq {
		if i > 0 {
			t.Error(i)
		}
		break
	}
	if latch.Same(l, c) || !c.Holds(1) || !latch.Same(c, d) || !slices.Equal(c.Held(), []api.Turn{turn(1, false)}) || !slices.Equal(waits(c), []api.Turn{turn(2, true), turn(3, false)}) {
		t.Error("a copy does not go on apart")
	}
	if c.Free(3) != api.OK || c.Ask(3, true) != api.OK || c.Ask(3, true) != api.ErrTwice || c.Free(1) != api.OK || c.Free(1) != api.ErrNone || c.Ask(1, true) != api.OK || !slices.Equal(waits(c), []api.Turn{turn(3, true), turn(1, true)}) || !slices.Equal(waits(d), []api.Turn{turn(2, true), turn(3, false)}) {
		t.Error(c.Held(), waits(c), waits(d))
	}
	if l.Free(2) != api.OK || !slices.Equal(l.Held(), []api.Turn{turn(3, false)}) {
		t.Error(l.Held())
	}
	l.Ask(0, false)
	l.Ask(7, true)
	l.Ask(6, false)
	if !slices.Equal(l.Held(), []api.Turn{turn(3, false), turn(0, false)}) || !slices.Equal(waits(l), []api.Turn{turn(7, true), turn(6, false)}) {
		t.Error(l.Held(), waits(l))
	}
	// One that waits goes: those behind it may get it.
	if l.Free(7) != api.OK || !l.Holds(6) || len(waits(l)) > 0 {
		t.Error(l.Held())
	}
	l.Held()[0] = turn(5, true)
	if !l.Holds(3) || l.Held()[0] != turn(3, false) {
		t.Error("an answer is shared")
	}
}

// P25.2
func TestSameAndNone(t *testing.T) {
	a, b := latch.New(), latch.New()
	if !latch.Same(a, b) || latch.Same(a, nil) || latch.Same(nil, a) || !latch.Same(nil, nil) {
		t.Error("same")
	}
	for _, x := range [][2]int{{1, 2}, {2, 1}} {
		a.Ask(x[0], false)
		b.Ask(x[1], false)
	}
	if latch.Same(a, b) {
		t.Error("other orders are the same")
	}
	for _, none := range []*latch.Latch{nil, {}} {
		if none.Ask(9, true) != api.ErrNil || none.Free(9) != api.ErrNil || none.Holds(0) || len(none.Held()) > 0 || len(waits(none)) > 0 || none.Copy() != nil || !latch.Same(none, nil) {
			t.Error("none")
		}
	}
}

// P25.3
func TestAllGetIt(t *testing.T) {
	r := rand.New(rand.NewSource(25))
	l := latch.New()
	ahead := map[int][]int{}
	for range 20000 {
		client := r.Intn(8)
		if r.Intn(2) == 0 {
			var all []int
			for _, x := range l.Held() {
				all = append(all, x.Client)
			}
			for _, x := range waits(l) {
				all = append(all, x.Client)
			}
			if l.Ask(client, r.Intn(2) == 0) == api.OK {
				ahead[client] = all
			}
		} else if l.Free(client) == api.OK {
			delete(ahead, client)
			for c := range ahead {
				ahead[c] = slices.DeleteFunc(ahead[c], func(x int) bool { return x == client })
			}
		}
		held := l.Held()
		for _, x := range held {
			if x.Write && len(held) > 1 {
				t.Fatal(held)
			}
		}
		if len(held) == 0 && len(waits(l)) > 0 {
			t.Fatal("nobody holds it, and somebody waits")
		}
		for c, all := range ahead {
			if len(all) == 0 && !l.Holds(c) {
				t.Fatal(c, "does not get it")
			}
		}
	}
}
