// Package total_test calls all that the chapters list with arguments of any kind: nothing may panic, and nothing that is handed in may change.
package total_test

import (
	"math"
	"math/rand"
	"reflect"
	"slices"
	"strings"
	"testing"

	"hedgerow/api"
	"hedgerow/bitmap"
	"hedgerow/client"
	"hedgerow/console"
	"hedgerow/deed"
	"hedgerow/dir"
	"hedgerow/extents"
	"hedgerow/hash"
	"hedgerow/image"
	"hedgerow/inode"
	"hedgerow/journal"
	"hedgerow/latch"
	"hedgerow/layout"
	"hedgerow/model"
	"hedgerow/mount"
	"hedgerow/names"
	"hedgerow/node"
	"hedgerow/order"
	"hedgerow/plan"
	"hedgerow/pmem"
	"hedgerow/record"
	"hedgerow/redo"
	"hedgerow/scan"
	"hedgerow/script"
	"hedgerow/slots"
	"hedgerow/space"
	"hedgerow/stream"
	"hedgerow/sum"
	"hedgerow/tree"
	"hedgerow/walk"
	"hedgerow/words"
	"hedgerow/yard"
)

// faces are all functions of the chapters.
func faces() []any {
	return []any{
		words.Bytes, words.Words, words.Lay, words.Take, words.Field, words.With, words.Bits, words.Ones,
		hash.Sum, hash.Part, hash.New, (*hash.State).Write, (*hash.State).Sum, (*hash.State).Len, (*hash.State).Copy,
		sum.Sum, sum.More, sum.Words, sum.Seal, sum.Open,
		names.Check, names.Parts, names.Each, names.Join, names.Short, names.Split, names.Under,
		bitmap.New, bitmap.Of, (*bitmap.Map).Set, (*bitmap.Map).Free, (*bitmap.Map).Get, (*bitmap.Map).Find, (*bitmap.Map).Left, (*bitmap.Map).Len, (*bitmap.Map).Runs, (*bitmap.Map).Words, (*bitmap.Map).Copy, bitmap.Same,
		extents.Check, extents.Find, extents.Put, extents.Cut, extents.Each, extents.Blocks, extents.Words, extents.Of,
		pmem.New, pmem.Of, (*pmem.Memory).Load, (*pmem.Memory).Store, (*pmem.Memory).Flush, (*pmem.Memory).Fence, (*pmem.Memory).Evict, (*pmem.Memory).Open, (*pmem.Memory).Crash, (*pmem.Memory).Image, (*pmem.Memory).Lasting, (*pmem.Memory).Len, (*pmem.Memory).Copy, pmem.Same,
		plan.Check, plan.Order, plan.Ordered, plan.Stores, plan.Apply, plan.Run, plan.Each,
		slots.Read, slots.Each, slots.Check, slots.Put, slots.Take, slots.Swap, slots.Tidy,
		scan.New, (*scan.Reader).Wants, (*scan.Reader).Give, (*scan.Reader).Found, (*scan.Reader).Loads, (*scan.Reader).Copy, scan.Look, scan.Trace,
		node.Make, node.Of, node.Check, node.Put, node.Take, node.Swap, node.Tidy, node.Split, node.Child, node.Each,
		tree.Check, tree.Find, tree.All, tree.From, tree.Blocks, tree.Put, tree.Take, tree.Swap, tree.Build,
		layout.Of, layout.Super, layout.Read, layout.Journal, layout.Inode, layout.Record, layout.Part, layout.Each,
		inode.Check, inode.Words, inode.Of, inode.Stores, inode.Linked, inode.Same,
		record.Check, record.Words, record.Of, record.Stores, record.Sum, record.Key, record.Split,
		dir.List, dir.From, dir.Find, dir.Room, dir.Put, dir.Take, dir.Swap,
		walk.New, (*walk.Walker).Asks, (*walk.Walker).Give, (*walk.Walker).Miss, (*walk.Walker).Done, (*walk.Walker).Left, (*walk.Walker).Copy, walk.Go,
		model.New, model.Of, (*model.Model).Do, (*model.Model).State, (*model.Model).Spare, (*model.Model).Copy, model.Same, model.SameAnswer, model.Writes,
		image.Lay, image.View, image.Each, image.Same,
		space.Check, space.Free, space.Inode, space.Record, space.Pick, space.Map, space.Stores, space.Runs,
		journal.Check, journal.Words, journal.Of, journal.Stores, journal.Strike,
		redo.Leaf, redo.Again, redo.Each,
		deed.Do, deed.Whole, deed.Spare, deed.Each,
		mount.Make, mount.Right, mount.Neat, mount.Mount, mount.Each,
		latch.New, (*latch.Latch).Ask, (*latch.Latch).Free, (*latch.Latch).Holds, (*latch.Latch).Held, (*latch.Latch).Waits, (*latch.Latch).Copy, latch.Same,
		client.New, (*client.Client).Begin, (*client.Client).Step, (*client.Client).Lose, (*client.Client).Answer, (*client.Client).Phase, (*client.Client).Left, (*client.Client).Copy, client.Run,
		yard.New, (*yard.Yard).Do, (*yard.Yard).Up, (*yard.Yard).History, (*yard.Yard).Memory, (*yard.Yard).Haps, (*yard.Yard).Left, (*yard.Yard).Held, (*yard.Yard).Copy, yard.Play,
		stream.New, (*stream.Stream).Call, (*stream.Stream).Take, (*stream.Stream).Seek, (*stream.Stream).Told, (*stream.Stream).Cursor, (*stream.Stream).Over, (*stream.Stream).Copy, stream.Run,
		order.Check, order.Reads, order.Find, order.Each, order.Behind,
		script.Check, script.Raw, script.Haps, script.Each, script.Play, script.Same,
		console.New, (*console.Console).Line, console.Run,
	}
}

// maker makes values of any kind; what calls answered is handed in again, and so are the words of some devices of one layout.
type maker struct {
	r       *rand.Rand
	seen    map[reflect.Type][]reflect.Value
	devices [][]uint64
}

// aCall makes a call that may go.
func (m *maker) aCall() api.Call {
	return api.Call{Kind: api.CallKind(m.r.Intn(15)), Path: m.text(), To: m.text(), At: m.r.Intn(900), Many: m.r.Intn(9), Key: uint64(m.r.Intn(2)), Bytes: make([]byte, m.r.Intn(700))}
}

// prepare makes some devices: neat ones, and such as a crash left.
func (m *maker) prepare() {
	w, _ := mount.Make(api.Form{Blocks: 48, Inodes: 8, Records: 16, Bits: 4}, [2]uint64{1, 2})
	for range 60 {
		_, s := deed.Do(w, m.r.Intn(8), m.aCall())
		for i, p := range s {
			if i == len(s)/2 {
				m.devices = append(m.devices, slices.Clone(w))
			}
			w[p.At] = p.Value
		}
		m.devices = append(m.devices, slices.Clone(w))
	}
	l, _ := layout.Read(w)
	x, _ := image.View(w)
	y, _ := yard.New(w)
	mem, _ := pmem.Of(w)
	state, _ := model.Of(l, x.Things...)
	c := console.New()
	c.Line("make 36 8 16 4")
	for _, v := range []any{l, l, l.Form, x, x.Things, x.Things[0], y, mem, state, c} {
		m.keep(reflect.ValueOf(v))
	}
}

func (m *maker) number() int64 {
	switch m.r.Intn(8) {
	case 1, 2:
		return int64(9*64 + 2 + 16*m.r.Intn(8)) // where directories have their roots
	case 0:
		return []int64{math.MinInt64, math.MaxInt64, -1, 1 << 31, 1 << 40, -7, 65535, 65536, 2048, 131072}[m.r.Intn(10)]
	case 3:
		return int64(m.r.Intn(3000))
	}
	return int64(m.r.Intn(20))
}

func (m *maker) text() string {
	switch m.r.Intn(8) {
	case 0:
		return strings.Repeat("x", m.r.Intn(1200))
	case 1:
		return string([]byte{byte(m.r.Intn(256)), byte(m.r.Intn(256))})
	case 2:
		return []string{"make 36 8 16 4", "mkdir /a", "begin 1 create /a/b", "pick 1 900", "crash 0102", "mount 9", "list", "free", "moments", "order", "readdir / 0 9", "write /a/b 0 6162", "word 0", "neat", "up\nup"}[m.r.Intn(15)]
	}
	return "/" + []string{"a", "b", "a/b", "..", "a/../b", "/", "a/.", "a/b/c"}[m.r.Intn(8)]
}

// make makes a value of a kind.
func (m *maker) make(t reflect.Type, depth int) reflect.Value {
	if old := m.seen[t]; len(old) > 0 && m.r.Intn(3) > 0 {
		return m.twisted(old[m.r.Intn(len(old))])
	}
	switch {
	case t == reflect.TypeFor[api.Call]() && m.r.Intn(4) > 0:
		return reflect.ValueOf(m.aCall())
	case t == reflect.TypeFor[[]uint64]() && m.r.Intn(2) == 0:
		return m.twisted(reflect.ValueOf(m.devices[m.r.Intn(len(m.devices))]))
	}
	v := reflect.New(t).Elem()
	switch t.Kind() {
	case reflect.Int:
		v.SetInt(m.number())
	case reflect.Uint64:
		v.SetUint(uint64(m.number()))
	case reflect.Uint8:
		v.SetUint(uint64(m.r.Intn(256)))
	case reflect.Bool:
		v.SetBool(m.r.Intn(2) == 0)
	case reflect.String:
		v.SetString(m.text())
	case reflect.Slice:
		for range m.r.Intn(6) {
			v = reflect.Append(v, m.make(t.Elem(), depth+1))
		}
	case reflect.Array:
		for i := range t.Len() {
			v.Index(i).Set(m.make(t.Elem(), depth+1))
		}
	case reflect.Struct:
		for i := range t.NumField() {
			if m.r.Intn(3) > 0 {
				v.Field(i).Set(m.make(t.Field(i).Type, depth+1))
			}
		}
	case reflect.Pointer:
		if m.r.Intn(2) == 0 {
			v = reflect.New(t.Elem())
		}
	case reflect.Func:
		if m.r.Intn(2) == 0 {
			v = reflect.MakeFunc(t, func([]reflect.Value) []reflect.Value {
				return []reflect.Value{m.make(t.Out(0), 3), m.make(t.Out(1), 3)}
			})
		}
	}
	return v
}

// twisted tells a value that was answered, sometimes with a word of it changed.
func (m *maker) twisted(v reflect.Value) reflect.Value {
	if w, is := v.Interface().([]uint64); is && len(w) > 0 {
		w = slices.Clone(w)
		for range m.r.Intn(3) {
			w[m.r.Intn(len(w))] = []uint64{0, w[m.r.Intn(len(w))], uint64(m.r.Intn(99)), m.r.Uint64()}[m.r.Intn(4)]
		}
		return reflect.ValueOf(w)
	}
	return v
}

// keep keeps what was answered, to be handed in again.
func (m *maker) keep(v reflect.Value) {
	t := v.Type()
	if t.Kind() == reflect.Func || t.Kind() == reflect.Slice && (v.Len() == 0 || v.Len() > 200000) || t.Kind() == reflect.Pointer && v.IsNil() {
		return
	}
	if old := m.seen[t]; len(old) >= 40 {
		old[m.r.Intn(40)] = v
	} else {
		m.seen[t] = append(old, v)
	}
}

// exhaust goes over an iterator, twice, and once only its first thing.
func (m *maker) exhaust(v reflect.Value) {
	t := v.Type()
	if t.NumIn() != 1 || t.In(0).Kind() != reflect.Func || v.IsNil() {
		return
	}
	for range 2 {
		n := 0
		v.Call([]reflect.Value{reflect.MakeFunc(t.In(0), func([]reflect.Value) []reflect.Value {
			n++
			return []reflect.Value{reflect.ValueOf(n < 1+m.r.Intn(50))}
		})})
	}
}

// frozen tells a deep copy of plain arguments, to hold them against what they are behind a call.
func frozen(v reflect.Value) reflect.Value {
	c := reflect.New(v.Type()).Elem()
	c.Set(v)
	switch v.Kind() {
	case reflect.Slice:
		if v.IsNil() {
			return c
		}
		// Spare room behind a list is part of what is handed in.
		c = reflect.MakeSlice(v.Type(), v.Cap(), v.Cap())
		full := v.Slice(0, v.Cap())
		for i := range full.Len() {
			c.Index(i).Set(frozen(full.Index(i)))
		}
		c = c.Slice(0, v.Len())
	case reflect.Struct:
		for i := range v.NumField() {
			c.Field(i).Set(frozen(v.Field(i)))
		}
	}
	return c
}

// full tells a list with its spare room.
func full(v reflect.Value) any {
	if v.Kind() == reflect.Slice && !v.IsNil() {
		return v.Slice(0, v.Cap()).Interface()
	}
	return v.Interface()
}

func TestAnyArguments(t *testing.T) {
	for seed := range int64(3) {
		m := &maker{r: rand.New(rand.NewSource(seed)), seen: map[reflect.Type][]reflect.Value{}}
		m.prepare()
		all := faces()
		for range 20000 {
			m.call(t, reflect.ValueOf(all[m.r.Intn(len(all))]))
		}
	}
}

// empty says whether an answer tells nothing: a list of none is as good as no list.
func empty(v reflect.Value) bool {
	switch v.Kind() {
	case reflect.Slice:
		return v.Len() == 0
	case reflect.Struct:
		for i := range v.NumField() {
			if !empty(v.Field(i)) {
				return false
			}
		}
		return true
	}
	return v.IsZero()
}

// call calls a function with arguments of any kind.
func (m *maker) call(t *testing.T, f reflect.Value) {
	ft := f.Type()
	var in, was []reflect.Value
	for i := range ft.NumIn() {
		v := m.make(ft.In(i), 0)
		in = append(in, v)
		if k := ft.In(i).Kind(); k == reflect.Slice || k == reflect.Struct {
			was = append(was, frozen(v))
		} else {
			was = append(was, reflect.Value{})
		}
	}
	var out []reflect.Value
	if ft.IsVariadic() {
		out = f.CallSlice(in)
	} else {
		out = f.Call(in)
	}
	for i, v := range was {
		if v.IsValid() && !reflect.DeepEqual(full(v), full(in[i])) {
			t.Fatal(ft, "changed what was handed in")
		}
	}
	failed := false
	for _, v := range out {
		if e, is := v.Interface().(api.Errno); is && e != api.OK && len(out) > 1 {
			failed = true
		}
	}
	for _, v := range out {
		if v.Kind() == reflect.Func {
			m.exhaust(v)
		} else if failed && v.Type() != reflect.TypeFor[api.Errno]() && !empty(v) && v.Type() != reflect.TypeFor[api.DidKind]() && v.Kind() != reflect.Bool {
			t.Fatal(ft, "answers something beside an error", in, out)
		}
		m.keep(v)
	}
}
