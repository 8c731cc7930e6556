package stream_test

import (
	"math"
	"math/rand"
	"slices"
	"strconv"
	"testing"

	"hedgerow/api"
	"hedgerow/layout"
	"hedgerow/model"
	"hedgerow/stream"
)

func made(t *testing.T, bits int) *model.Model {
	t.Helper()
	l, e := layout.Of(api.Form{Blocks: 100, Inodes: 64, Records: 64, Bits: bits}, [2]uint64{1, 2})
	if e != api.OK {
		t.Fatal(e)
	}
	m, _ := model.New(l)
	return m
}

func told(s *stream.Stream) []api.Named {
	var out []api.Named
	for i, n := range s.Told() {
		if i != len(out) {
			return nil
		}
		out = append(out, n)
	}
	return out
}

func same(a, b api.Call) bool {
	return a.Kind == b.Kind && a.Path == b.Path && a.To == b.To && a.At == b.At && a.Many == b.Many && a.Key == b.Key && len(a.Bytes) == len(b.Bytes)
}

// P28.1, P28.2
func TestStream(t *testing.T) {
	for many, want := range map[int]api.Errno{0: api.ErrArg, -1: api.ErrArg, 65: api.ErrArg, math.MaxInt: api.ErrArg, 1: api.OK, 64: api.OK} {
		if s, e := stream.New("no path", many); e != want || (s == nil) == (e == api.OK) {
			t.Error(many, e)
		}
	}
	s, _ := stream.New("/", 2)
	if c, is := s.Call(); !is || !same(c, api.Call{Kind: api.CallReaddir, Path: "/", Many: 2}) {
		t.Error(c, is)
	}
	a := []api.Named{{Key: 3, Name: "a", Inode: 2}, {Key: 9, Name: "b", Inode: 3}}
	if e := s.Take(api.Answer{Names: a, Key: 10}); e != api.OK || s.Cursor() != 10 {
		t.Error(e)
	}
	a[0].Name = "changed"
	c := s.Copy()
	seq := s.Told()
	s.Take(api.Answer{Names: []api.Named{{Key: 20, Name: "c", Inode: 4}}, Key: 21})
	if over, e := s.Over(); over || e != api.OK || len(told(s)) != 3 || told(s)[0].Name != "a" || len(told(c)) != 2 || c.Cursor() != 10 {
		t.Error(told(s), told(c))
	}
	for range 2 {
		n := 0
		for i, x := range seq {
			if i != n || x.Name != []string{"a", "b"}[n] {
				t.Error(i, x)
			}
			n++
		}
		if n != 2 {
			t.Error(n)
		}
	}
	for i := range seq {
		if i > 0 {
			t.Error(i)
		}
		break
	}
	s.Take(api.Answer{Key: 99})
	if over, e := s.Over(); !over || e != api.OK || s.Take(api.Answer{}) != api.ErrNone || s.Cursor() != 21 {
		t.Error(over, e, s.Cursor())
	}
	if c, is := s.Call(); is || !same(c, api.Call{}) {
		t.Error(c, is)
	}
	s.Seek(5)
	if c, is := s.Call(); !is || c.Key != 5 || len(told(s)) != 3 || s.Cursor() != 5 {
		t.Error(c, is)
	}
	s.Take(api.Answer{Errno: api.ErrNoEnt, Names: a, Key: 7})
	if over, e := s.Over(); !over || e != api.ErrNoEnt || len(told(s)) != 3 || s.Cursor() != 5 {
		t.Error(over, e)
	}
	s.Seek(math.MaxUint64)
	if over, e := s.Over(); over || e != api.OK {
		t.Error(over, e)
	}
	for _, none := range []*stream.Stream{nil, {}} {
		c, is := none.Call()
		over, e := none.Over()
		if is || !same(c, api.Call{}) || !over || e != api.ErrNil || none.Take(api.Answer{}) != api.ErrNil || none.Seek(1) != api.ErrNil || len(told(none)) > 0 || none.Cursor() != 0 || none.Copy() != nil {
			t.Error("none")
		}
	}
}

// P28.3
func TestRun(t *testing.T) {
	m := made(t, 2)
	var want []api.Named
	for i := range 20 {
		m.Do(api.Call{Kind: api.CallCreate, Path: "/" + strconv.Itoa(i)})
	}
	want = m.State()[0].Names
	for many := 1; many <= 64; many++ {
		if l, e := stream.Run(m, "/", many); e != api.OK || !slices.Equal(l, want) {
			t.Error(many, l, e)
		}
	}
	for i, c := range []struct {
		m    *model.Model
		path string
		many int
		e    api.Errno
	}{{nil, "x", 0, api.ErrNil}, {&model.Model{}, "/", 1, api.ErrNil}, {m, "x", 0, api.ErrArg}, {m, "x", 1, api.ErrName}, {m, "/q", 1, api.ErrNoEnt}, {m, "/3", 1, api.ErrNotDir}} {
		if l, e := stream.Run(c.m, c.path, c.many); len(l) > 0 || e != c.e {
			t.Error(i, l, e)
		}
	}
	if l, e := stream.Run(made(t, 3), "/", 3); len(l) != 0 || e != api.OK {
		t.Error(l, e)
	}
}

// P28.4
func TestWhileOthersChange(t *testing.T) {
	r := rand.New(rand.NewSource(28))
	for range 200 {
		m := made(t, 1+r.Intn(6))
		change := func(n int) {
			for range n {
				c := api.Call{Kind: []api.CallKind{api.CallCreate, api.CallUnlink, api.CallRename, api.CallLink}[r.Intn(4)], Path: "/" + strconv.Itoa(r.Intn(30)), To: "/" + strconv.Itoa(r.Intn(30))}
				m.Do(c)
			}
		}
		change(60)
		s, _ := stream.New("/", 1+r.Intn(4))
		stays := map[api.Named]int{}
		for _, n := range m.State()[0].Names {
			stays[n] = 0
		}
		calls := 0
		for c, is := s.Call(); is; c, is = s.Call() {
			there := m.State()[0].Names
			for n := range stays {
				if !slices.ContainsFunc(there, func(x api.Named) bool { return x.Name == n.Name && x.Inode == n.Inode }) {
					delete(stays, n)
				}
			}
			was := len(told(s))
			s.Take(m.Do(c))
			for _, n := range told(s)[was:] {
				if !slices.Contains(there, n) {
					t.Fatal(n, "was not there")
				}
			}
			change(r.Intn(5))
			if calls++; calls > 300 {
				t.Fatal("it does not end")
			}
		}
		all := told(s)
		for i, n := range all {
			if i > 0 && n.Key <= all[i-1].Key {
				t.Fatal("keys do not rise")
			}
		}
		for n := range stays {
			times := 0
			for _, x := range all {
				if x.Name == n.Name {
					times++
				}
			}
			if times != 1 {
				t.Fatal(n, times)
			}
		}
	}
	// A stream that seeks its cursor of before is told what is behind it.
	m := made(t, 8)
	for i := range 10 {
		m.Do(api.Call{Kind: api.CallCreate, Path: "/" + strconv.Itoa(i)})
	}
	s, _ := stream.New("/", 3)
	c, _ := s.Call()
	s.Take(m.Do(c))
	at, few := s.Cursor(), len(told(s))
	for c, is := s.Call(); is; c, is = s.Call() {
		s.Take(m.Do(c))
	}
	full := told(s)
	s.Seek(at)
	for c, is := s.Call(); is; c, is = s.Call() {
		s.Take(m.Do(c))
	}
	if !slices.Equal(told(s)[len(full):], full[few:]) {
		t.Error(told(s))
	}
}
