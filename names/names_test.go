package names_test

import (
	"slices"
	"strings"
	"testing"

	"hedgerow/api"
	"hedgerow/names"
)

func wide(n int) string { return strings.Repeat("x", n) }

// P4.1
func TestCheckPartsEach(t *testing.T) {
	for name, want := range map[string]api.Errno{
		"a": api.OK, "...": api.OK, "\xff": api.OK, wide(120): api.OK,
		"": api.ErrName, ".": api.ErrName, "..": api.ErrName, "a/b": api.ErrName, "/": api.ErrName, "a\x00": api.ErrName, "\x00": api.ErrName,
		wide(121): api.ErrWide, wide(121) + "/": api.ErrName, wide(500) + "\x00": api.ErrName,
	} {
		if e := names.Check(name); e != want {
			t.Errorf("%q: %v, not %v", name, e, want)
		}
	}
	for path, want := range map[string]api.Errno{
		"a": api.ErrName, "": api.ErrName, "/a\x00": api.ErrName, wide(1001): api.ErrLong, "/" + wide(120): api.OK, "/" + wide(121): api.ErrWide,
		"/" + wide(121) + "\x00": api.ErrName, strings.Repeat("/", 1000): api.OK, strings.Repeat("/", 1001): api.ErrLong, "/a/" + wide(121) + "/b": api.ErrWide,
	} {
		l, e := names.Parts(path)
		if e != want || e != api.OK && len(l) > 0 {
			t.Errorf("%q: %v, not %v", path, e, want)
		}
		if e != api.OK {
			for range names.Each(path) {
				t.Errorf("%q has parts", path)
			}
		}
	}
	l, e := names.Parts("//a/./b/..//")
	if e != api.OK || !slices.Equal(l, []string{"a", ".", "b", ".."}) {
		t.Error(l, e)
	}
	seq := names.Each("//a/./b/")
	for range 2 {
		n := 0
		for i, p := range seq {
			if i != n || p != []string{"a", ".", "b"}[n] {
				t.Error(i, p)
			}
			n++
			if n == 2 {
				break
			}
		}
		if n != 2 {
			t.Error(n)
		}
	}
}

// P4.2
func TestJoinAndShort(t *testing.T) {
	many := slices.Repeat([]string{"abcd"}, 200)
	for _, row := range []struct {
		parts []string
		want  string
		e     api.Errno
	}{
		{nil, "/", api.OK},
		{[]string{"a", "..", ".", "b"}, "/a/.././b", api.OK},
		{[]string{"a", "/"}, "", api.ErrName},
		{[]string{"a", ""}, "", api.ErrName},
		{[]string{wide(121), ""}, "", api.ErrWide},
		{[]string{"", wide(121)}, "", api.ErrName},
		{many, strings.Repeat("/abcd", 200), api.OK},
		{append(slices.Clone(many), "a"), "", api.ErrLong},
		{append(slices.Clone(many), "a", "/"), "", api.ErrName},
		{slices.Repeat([]string{"."}, 500), strings.Repeat("/.", 500), api.OK},
		{slices.Repeat([]string{"."}, 501), "", api.ErrLong},
		{slices.Repeat([]string{".."}, 334), "", api.ErrLong},
	} {
		if got, e := names.Join(row.parts...); got != row.want || e != row.e {
			t.Error(row.parts, got, e)
		}
	}
	for path, want := range map[string]string{"/": "/", "///": "/", "//a/./b/": "/a/./b"} {
		if got, e := names.Short(path); got != want || e != api.OK {
			t.Error(path, got, e)
		}
	}
	if got, e := names.Short("a"); got != "" || e != api.ErrName {
		t.Error(got, e)
	}
}

// P4.3
func TestSplitAndUnder(t *testing.T) {
	for path, want := range map[string][2]string{"/a/b": {"/a", "b"}, "/a": {"/", "a"}, "//a/../b//": {"/a/..", "b"}} {
		if d, n, e := names.Split(path); d != want[0] || n != want[1] || e != api.OK {
			t.Error(path, d, n, e)
		}
	}
	for path, want := range map[string]api.Errno{"/": api.ErrName, "/a/.": api.ErrName, "/..": api.ErrName, "b": api.ErrName, wide(1001): api.ErrLong, "/" + wide(121): api.ErrWide} {
		if d, n, e := names.Split(path); d != "" || n != "" || e != want {
			t.Error(path, d, n, e)
		}
	}
	for _, row := range []struct {
		path, dir string
		is        bool
		e         api.Errno
	}{
		{"/a/b", "/a", true, api.OK}, {"/ab", "/a", false, api.OK}, {"/a", "/a/b", false, api.OK}, {"//a//", "/a", true, api.OK}, {"/", "/", true, api.OK}, {"/x", "/", true, api.OK},
		{wide(1001), "a", false, api.ErrLong}, {"/a", "a", false, api.ErrName}, {"a", wide(1001), false, api.ErrName}, {"/a", "/" + wide(121), false, api.ErrWide},
	} {
		if is, e := names.Under(row.path, row.dir); is != row.is || e != row.e {
			t.Error(row, is, e)
		}
	}
}

// P4.4
func TestThereAndBack(t *testing.T) {
	for _, path := range []string{"/", "//a/./b/", "/a/../../c", "/\xff/ /x", strings.Repeat("/ab", 333)} {
		parts, _ := names.Parts(path)
		short, _ := names.Short(path)
		joined, e := names.Join(parts...)
		if e != api.OK || joined != short {
			t.Error(path, joined, short, e)
		}
		again, _ := names.Short(short)
		same, _ := names.Parts(short)
		if again != short || !slices.Equal(same, parts) {
			t.Error(path, again, same)
		}
		if dir, _, e := names.Split(path); e == api.OK {
			if is, f := names.Under(path, dir); !is || f != api.OK {
				t.Error(path, dir)
			}
		}
	}
}
