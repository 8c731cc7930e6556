package console_test

import (
	"math/rand"
	"strconv"
	"strings"
	"testing"

	"hedgerow/api"
	"hedgerow/console"
)

// play asks lines, and holds their answers against those that are wanted.
func play(t *testing.T, c *console.Console, rows ...[2]string) {
	t.Helper()
	for _, r := range rows {
		got, e := c.Line(r[0])
		if e == api.ErrLine && got == "" {
			got = "error 410"
		} else if e != api.OK {
			t.Error(r[0], e)
		}
		if got != r[1] {
			t.Errorf("%q: %q, not %q", r[0], got, r[1])
		}
	}
}

func examples() [][2]string {
	return [][2]string{
		{"make 36 8 16 4", "ok"}, {"mkdir /a", "2"}, {"create /a/f", "3"}, {"write /a/f 1 6869", "2"}, {"read /a/f 0 9", "006869"}, {"list", "/a/, /a/f"},
		{"begin 1 rename /a /b", "ok"}, {"pick 1 2", "2"}, {"crash -", "ok"}, {"lookup /a", "error 370"}, {"mount 50", "ok"}, {"up", "yes"}, {"lookup /b", "error 270"}, {"lookup /a", "2 dir"},
		{"rename /a /a/c", "error 288"}, {"stat /a/f", "3 file 1 3"}, {"foo", "error 410"}, {"pick 9 1", "0"},
	}
}

// P31.1, P31.2
func TestExamples(t *testing.T) {
	play(t, console.New(), examples()...)
	var lines, want []string
	for _, r := range examples() {
		lines, want = append(lines, r[0], ""), append(want, r[1])
	}
	if out, e := console.Run(strings.Join(lines, "\n")); e != api.OK || out != strings.Join(want, "\n")+"\n" {
		t.Errorf("%q %v", out, e)
	}
}

// P31.1
func TestCalls(t *testing.T) {
	c := console.New()
	play(t, c,
		[2]string{"make 36 8 16 40", "ok"}, [2]string{"symlink /l f", "2"}, [2]string{"create /f", "3"}, [2]string{"link /f /g", "3"}, [2]string{"readlink /l", "f"}, [2]string{"lookup /l", "3 file"}, [2]string{"lookup /", "1 dir"}, [2]string{"stat /l", "3 file 2 0"}, [2]string{"rename /g /h", "3"}, [2]string{"unlink /h", "ok"}, [2]string{"unlink /h", "error 270"},
		[2]string{"mkdir /d", "4"}, [2]string{"rmdir /d", "ok"}, [2]string{"write /f 0 -", "0"}, [2]string{"write /f 0 00ff7a", "3"}, [2]string{"read /f 1 9", "ff7a"}, [2]string{"read /f 9 9", "-"}, [2]string{"truncate /f 2", "ok"}, [2]string{"read /f 0 9", "00ff"}, [2]string{"readlink /f", "error 2"},
		[2]string{"mkdir x", "error 140"}, [2]string{"lookup /" + strings.Repeat("x", 1000), "error 3"}, [2]string{"truncate /f 65537", "error 284"}, [2]string{"list", "/l, /f"}, [2]string{"free", "5 14 17"}, [2]string{"neat", "yes"}, [2]string{"order", "0 1 2 3 4 5 6 7 8 9 10 11 12 13 14 15 16 17 18 19 20 21"},
	)
	names, _ := c.Line("readdir / 0 9")
	parts := strings.Split(names, ", ")
	if len(parts) != 3 || !strings.HasSuffix(parts[0], " l 2") || !strings.HasSuffix(parts[1], " f 3") {
		t.Error(names)
	}
	last, _ := strconv.ParseUint(strings.Split(parts[1], " ")[0], 10, 64)
	if parts[2] != strconv.FormatUint(last+1, 10) {
		t.Error(names)
	}
	one, _ := c.Line("readdir / 0 1")
	if first := strings.Split(one, ", "); len(first) != 2 || first[0] != parts[0] {
		t.Error(one)
	}
	play(t, c, [2]string{"mkdir /e", "4"}, [2]string{"readdir /e 5 9", "5"}, [2]string{"readdir /f 5 9", "error 271"}, [2]string{"readdir / 5 0", "error 2"})
}

// P31.1: lines that may not be.
func TestNoLines(t *testing.T) {
	c := console.New()
	for _, line := range []string{"", " ", "foo", "Mkdir /a", "mkdir", "mkdir  /a", "mkdir /a ", " mkdir /a", "mkdir /a /b", "link /a", "read /a 0", "read /a 0 9 9", "read /a 00 9", "read /a +1 9", "read /a -1 9", "read /a 1 2147483648", "read /a x 9", "read /a 99999999999999999999 9",
		"write /a 0 6", "write /a 0 6G", "write /a 0 6A", "write /a 0 --", "write /a 0 ", "make 1 2 3", "make 1 2 3 4 5", "make 1 2 3 x", "begin 1", "begin x up", "begin 1 up", "begin 1 begin 1 mkdir /a", "begin 1 mkdir", "begin 1 mkdir /a b", "begin 1  mkdir /a", "begin mkdir /a",
		"pick 1", "pick 1 1 1", "pick -1 1", "evict", "evict x", "crash", "crash 0", "crash xx", "mount", "mount -1", "up 1", "up ", "moments x", "order x", "list x", "free x", "neat x", "word", "word x", "word 01", "mkdir\t/a", "mkdir /a\n/b c"} {
		if out, e := c.Line(line); out != "" || e != api.ErrLine {
			t.Errorf("%q: %q %v", line, out, e)
		}
	}
	// Without a device.
	for _, line := range []string{"mkdir /a", "begin 1 mkdir /a", "pick 1 1", "evict 0", "crash -", "mount 1", "up", "moments", "order", "list", "free", "neat", "word 0"} {
		if out, e := c.Line(line); out != "error 5" || e != api.OK {
			t.Errorf("%q: %q %v", line, out, e)
		}
	}
	play(t, c, [2]string{"make 31 8 16 4", "error 2"}, [2]string{"make 32 4 64 4", "error 221"}, [2]string{"up", "error 5"}, [2]string{"make 36 8 16 4", "ok"}, [2]string{"mkdir /a", "2"}, [2]string{"make 31 8 16 4", "error 2"}, [2]string{"list", "/a/"}, [2]string{"make 36 8 16 4", "ok"}, [2]string{"list", "none"}, [2]string{"moments", "none"}, [2]string{"order", "none"})
	for _, none := range []*console.Console{nil, {}} {
		if out, e := none.Line("foo"); out != "" || e != api.ErrNil {
			t.Error(out, e)
		}
	}
}

// P31.1: the lines of a yard.
func TestYard(t *testing.T) {
	play(t, console.New(),
		[2]string{"make 36 8 16 4", "ok"}, [2]string{"begin 8 mkdir /a", "error 2"}, [2]string{"begin 0 mkdir /a", "ok"}, [2]string{"begin 0 mkdir /b", "error 191"}, [2]string{"moments", "0 -1 -1"}, [2]string{"create /f", "2"}, [2]string{"moments", "0 -1 -1, 1 3 38"},
		[2]string{"pick 0 1", "1"}, [2]string{"lookup /f", "error 283"}, [2]string{"moments", "0 -1 -1, 1 3 38"}, [2]string{"pick 0 5000", "120"}, [2]string{"pick 0 1", "0"}, [2]string{"lookup /a", "3 dir"}, [2]string{"order", "1 0 2"},
		[2]string{"evict 0", "ok"}, [2]string{"evict 288", "error 4"}, [2]string{"word 0", "3555397645633865032"}, [2]string{"word 1", "36"}, [2]string{"word 2304", "error 4"}, [2]string{"mount 1", "error 371"}, [2]string{"neat", "yes"},
		[2]string{"begin 7 write /f 0 61", "ok"}, [2]string{"pick 7 68", "68"}, [2]string{"crash 02", "ok"}, [2]string{"up", "no"}, [2]string{"pick 7 1", "0"}, [2]string{"mount 0", "error 2"}, [2]string{"list", "/a/, /f"}, [2]string{"mount 2147483647", "ok"}, [2]string{"neat", "yes"}, [2]string{"read /f 0 9", "-"},
	)
	c := console.New()
	c.Line("make 36 8 16 4")
	for i := range 8 {
		play(t, c, [2]string{"begin " + strconv.Itoa(i) + " lookup /", "ok"})
	}
	play(t, c, [2]string{"lookup /", "error 3"}, [2]string{"pick 3 3", "3"}, [2]string{"lookup /", "1 dir"}, [2]string{"crash -", "ok"}, [2]string{"lookup /", "error 370"})
	moments, _ := c.Line("moments")
	if !strings.HasPrefix(moments, "0 -1 -1 lost, 1 -1 -1 lost") || strings.Count(moments, "lost") != 7 {
		t.Error(moments)
	}
	// At most 5000 steps of one line.
	c = console.New()
	play(t, c, [2]string{"make 36 8 16 4", "ok"}, [2]string{"begin 0 lookup /", "ok"}, [2]string{"pick 0 2", "2"}, [2]string{"begin 1 mkdir /a", "ok"}, [2]string{"pick 1 6000", "5000"}, [2]string{"pick 1 4999", "4999"})
	// A reader waits behind a writer that waits.
	c = console.New()
	play(t, c, [2]string{"make 36 8 16 4", "ok"}, [2]string{"begin 0 lookup /", "ok"}, [2]string{"pick 0 2", "2"}, [2]string{"lookup /", "1 dir"}, [2]string{"mkdir /a", "error 283"}, [2]string{"begin 5 mkdir /a", "ok"}, [2]string{"pick 5 3", "3"}, [2]string{"lookup /", "error 283"}, [2]string{"pick 0 9", "1"}, [2]string{"pick 5 9999", "121"}, [2]string{"lookup /a", "2 dir"})
}

// P31.1: what stands there half done.
func TestHalfDone(t *testing.T) {
	c := console.New()
	play(t, c, [2]string{"make 36 8 16 4", "ok"}, [2]string{"begin 0 mkdir /a", "ok"}, [2]string{"pick 0 90", "90"}, [2]string{"neat", "no"}, [2]string{"list", "none"}, [2]string{"free", "7 16 18"}, [2]string{"pick 0 999", "32"}, [2]string{"neat", "yes"}, [2]string{"list", "/a/"})
}

// P31.2
func TestRun(t *testing.T) {
	for text, want := range map[string]string{"": "", "\n\n": "", "up": "error 5\n", "up\n": "error 5\n", "\nfoo\n\nup": "error 410\nerror 5\n", "up \n": "error 410\n"} {
		if out, e := console.Run(text); out != want || e != api.OK {
			t.Errorf("%q: %q %v", text, out, e)
		}
	}
	if out, e := console.Run(strings.Repeat("\n", 1000)); out != "" || e != api.ErrLong {
		t.Error(e)
	}
	if out, e := console.Run(strings.Repeat("u\n", 999)); e != api.OK || strings.Count(out, "error 410\n") != 999 {
		t.Error(e)
	}
	if out, e := console.Run(strings.Repeat("u", api.MaxText)); out != "error 410\n" || e != api.OK {
		t.Error(e)
	}
	if out, e := console.Run(strings.Repeat("u", api.MaxText+1)); out != "" || e != api.ErrLong {
		t.Error(e)
	}
}

// P31.3
func TestTextAndMore(t *testing.T) {
	r := rand.New(rand.NewSource(31))
	line := func() string {
		p := func() string { return "/" + strconv.Itoa(r.Intn(4)) }
		n := strconv.Itoa(r.Intn(9))
		return []string{"mkdir " + p(), "create " + p(), "unlink " + p(), "rename " + p() + " " + p(), "write " + p() + " " + n + " 6162", "read " + p() + " 0 9", "begin " + n + " create " + p(), "pick " + n + " " + strconv.Itoa(r.Intn(80)), "crash 0102", "mount " + strconv.Itoa(1+r.Intn(30)), "evict " + n, "stat " + p(), "readdir / 0 9"}[r.Intn(13)]
	}
	for range 20 {
		var a, b []string
		for range 30 {
			a, b = append(a, line()), append(b, line())
		}
		first, e := console.Run("make 40 8 16 4\n" + strings.Join(a, "\n"))
		both, f := console.Run("make 40 8 16 4\n" + strings.Join(a, "\n") + "\n" + strings.Join(b, "\n"))
		if e != api.OK || f != api.OK || !strings.HasPrefix(both, first) {
			t.Fatal(e, f)
		}
		// What only asks, and what may not be, changes nothing.
		var asked []string
		for _, x := range a {
			asked = append(asked, "up", "moments", "order", "list", "free", "neat", "word 5", "foo", x)
		}
		all, _ := console.Run("make 40 8 16 4\n" + strings.Join(asked, "\n"))
		lines := strings.Split(all, "\n")
		kept := []string{lines[0]}
		for i := 9; i < len(lines); i += 9 {
			kept = append(kept, lines[i])
		}
		if strings.Join(kept, "\n")+"\n" != first {
			t.Fatal("what only asks changes something")
		}
	}
}
