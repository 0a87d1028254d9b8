package disk_test

import (
	"math"
	"math/rand"
	"slices"
	"strconv"
	"strings"
	"testing"

	"caravan/api"
	"caravan/disk"
	"caravan/path"
)

// op is a call that may be an effect.
type op struct {
	do   string
	p    string
	q    string // data, target, or where to
	time int64
}

func write(p, data string, time int64) op  { return op{"Write", p, data, time} }
func more(p, data string) op               { return op{"Append", p, data, 0} }
func mkdir(p string) op                    { return op{"Mkdir", p, "", 0} }
func link(p, target string, time int64) op { return op{"Link", p, target, time} }
func rename(from, to string) op            { return op{"Rename", from, to, 0} }
func remove(p string) op                   { return op{"Remove", p, "", 0} }

func (o op) String() string {
	return o.do + "(" + o.p + ", " + o.q + ", " + strconv.FormatInt(o.time, 10) + ")"
}

// run does a call.
func run(d *disk.Disk, o op) api.Errno {
	switch o.do {
	case "Write":
		return d.Write(o.p, o.q, o.time)
	case "Append":
		return d.Append(o.p, o.q)
	case "Mkdir":
		return d.Mkdir(o.p)
	case "Link":
		return d.Link(o.p, o.q, o.time)
	case "Rename":
		return d.Rename(o.p, o.q)
	case "Remove":
		return d.Remove(o.p)
	}
	panic(o.do)
}

func made(t *testing.T, room int) *disk.Disk {
	t.Helper()
	d, err := disk.New(room)
	if d == nil || err != api.OK {
		t.Fatalf("New(%d) = %v, %d", room, d, err)
	}
	return d
}

// with answers a disk on which these calls were done.
func with(t *testing.T, room int, l ...op) *disk.Disk {
	t.Helper()
	d := made(t, room)
	all(t, d, l...)
	return d
}

// all does calls that are OK.
func all(t *testing.T, d *disk.Disk, l ...op) {
	t.Helper()
	for _, o := range l {
		is(t, d, o, api.OK)
	}
}

// is holds a call against what it is to answer; what is an error changes nothing.
func is(t *testing.T, d *disk.Disk, o op, want api.Errno) {
	t.Helper()
	before, pending := told(d), d.Pending()
	if err := run(d, o); err != want {
		t.Errorf("%.120q = %d, not %d", o, err, want)
	} else if err != api.OK && (told(d) != before || d.Pending() != pending) {
		t.Errorf("%.120q = %d, but changed %s, %d to %s, %d", o, err, before, pending, told(d), d.Pending())
	} else if err == api.OK && d.Pending() != pending+1 {
		t.Errorf("%.120q: Pending = %d behind %d", o, d.Pending(), pending)
	}
}

func ok(t *testing.T, err api.Errno) {
	t.Helper()
	if err != api.OK {
		t.Errorf("%d, not OK", err)
	}
}

// text writes a node.
func text(n api.Node) string {
	return strconv.Itoa(n.Kind) + " " + strconv.Quote(n.Data) + " " + strconv.Quote(n.Target) + " " + strconv.FormatInt(n.Time, 10)
}

// told writes all that is to be seen of a disk's tree.
func told(d *disk.Disk) string {
	var b strings.Builder
	for _, p := range d.Paths() {
		n, err := d.Read(p)
		b.WriteString(strconv.Quote(p) + " " + strconv.Itoa(int(err)) + " " + text(n) + "\n")
	}
	return b.String() + strconv.Itoa(d.Used())
}

// stands holds what is at a path against a node.
func stands(t *testing.T, d *disk.Disk, p string, want api.Node) {
	t.Helper()
	if n, err := d.Read(p); n != want || err != api.OK {
		t.Errorf("Read(%q) = %.200q, %d, not %.200q", p, text(n), err, text(want))
	}
}

func file(data string, time int64) api.Node {
	return api.Node{Kind: api.KFile, Data: data, Time: time}
}

var dir = api.Node{Kind: api.KDir}

func linkTo(target string, time int64) api.Node {
	return api.Node{Kind: api.KLink, Target: target, Time: time}
}

// gone tells that nothing is at these paths.
func gone(t *testing.T, d *disk.Disk, l ...string) {
	t.Helper()
	for _, p := range l {
		if n, err := d.Read(p); n != (api.Node{}) || err != api.ErrNone {
			t.Errorf("Read(%q) = %q, %d", p, text(n), err)
		}
	}
}

func paths(t *testing.T, d *disk.Disk, want ...string) {
	t.Helper()
	if l := d.Paths(); !slices.Equal(l, want) {
		t.Errorf("Paths = %q, not %q", l, want)
	}
}

func lists(t *testing.T, d *disk.Disk, p string, want ...string) {
	t.Helper()
	if l, err := d.List(p); !slices.Equal(l, want) || err != api.OK {
		t.Errorf("List(%q) = %q, %d, not %q", p, l, err, want)
	}
}

func numbers(t *testing.T, d *disk.Disk, used, pending int, off bool) {
	t.Helper()
	if d.Used() != used || d.Pending() != pending || d.Off() != off {
		t.Errorf("Used = %d, Pending = %d, Off = %t, not %d, %d, %t", d.Used(), d.Pending(), d.Off(), used, pending, off)
	}
}

// The chapter's examples.
func TestExamples(t *testing.T) {
	d := made(t, 1024)
	is(t, d, write("a/b", "x", 1), api.ErrNone)
	all(t, d, mkdir("a"), write("a/b", "x", 1), more("a/b", "y"))
	stands(t, d, "a/b", file("xy", 1))
	is(t, d, mkdir("a"), api.ErrThere)
	is(t, d, mkdir("a/b/c"), api.ErrDir)
	is(t, d, write("a", "", 1), api.ErrDir)
	is(t, d, more("a", ""), api.ErrDir)
	is(t, d, remove("a"), api.ErrBusy)
	is(t, d, rename("a", "a/c"), api.ErrArg)
	all(t, d, rename("a", "d"))
	lists(t, d, "", "d")
	paths(t, d, "d", "d/b")
	numbers(t, d, 130, 4, false)
	ok(t, d.Sync())
	all(t, d, write("d/b", "long", 2))
	ok(t, d.Crash([]byte{4}))
	stands(t, d, "d/b", file("lo", 2))
	numbers(t, d, 130, 0, false)
	ok(t, d.Fuse(1))
	all(t, d, mkdir("g"))
	numbers(t, d, 194, 1, true)
	is(t, d, mkdir("h"), api.ErrClosed)
	if err := d.Sync(); err != api.ErrClosed {
		t.Errorf("Sync = %d", err)
	}
	ok(t, d.Crash([]byte{1}))
	numbers(t, d, 194, 0, false)
	all(t, d, mkdir("h"))
	is(t, d, write("e", strings.Repeat("e", 1000), 1), api.ErrFull)
	is(t, d, write("", "", 1), api.ErrPath)
	is(t, d, write("e", "", -1), api.ErrArg)
	is(t, d, link("e", "", 1), api.ErrArg)
	is(t, d, remove("e"), api.ErrNone)
}

// P9.1: which rooms there are.
func TestNew(t *testing.T) {
	for _, room := range []int{math.MinInt, -1024, -1, 0, 1, 1023, 1<<20 + 1, 1 << 21, 1 << 32, math.MaxInt} {
		if d, err := disk.New(room); d != nil || err != api.ErrArg {
			t.Errorf("New(%d) = %v, %d", room, d, err)
		}
	}
	for _, room := range []int{1024, 1025, 1 << 16, 1<<20 - 1, 1 << 20} {
		d := made(t, room)
		if d.Room() != room {
			t.Errorf("New(%d): Room = %d", room, d.Room())
		}
		numbers(t, d, 0, 0, false)
		paths(t, d)
		lists(t, d, "")
	}
}

// P9.1, R3: disks that New did not make.
func TestNotMade(t *testing.T) {
	for _, d := range []*disk.Disk{nil, {}, new(disk.Disk)} {
		for _, o := range []op{write("a", "x", 1), write("", "", -1), more("a", "x"), more("/", ""), mkdir("a"), mkdir(""), link("a", "b", 1), link("", "", -1), rename("a", "b"), rename("", ""), remove("a"), remove("")} {
			if err := run(d, o); err != api.ErrNil {
				t.Errorf("%q = %d", o, err)
			}
		}
		for i, err := range []api.Errno{d.Sync(), d.Crash(nil), d.Crash([]byte{1}), d.Fuse(0), d.Fuse(1), d.Fuse(-1)} {
			if err != api.ErrNil {
				t.Errorf("%d: %d", i, err)
			}
		}
		for _, p := range []string{"a", "", "/"} {
			if n, err := d.Read(p); n != (api.Node{}) || err != api.ErrNil {
				t.Errorf("Read(%q) = %v, %d", p, n, err)
			}
			if l, err := d.List(p); l != nil || err != api.ErrNil {
				t.Errorf("List(%q) = %v, %d", p, l, err)
			}
		}
		numbers(t, d, 0, 0, false)
		if d.Paths() != nil || d.Room() != 0 || d.Copy() != nil {
			t.Errorf("%v, %d, %v", d.Paths(), d.Room(), d.Copy())
		}
	}
}

var noPaths = []string{"", "/", "/a", "a/", "a//b", "a/..", "./a", "a\x00", "a\x1f", "a\x7f", "a/b/c/d/e/f/g", strings.Repeat("n", 49), strings.Repeat(strings.Repeat("n", 39)+"/", 4) + "n", strings.Repeat(strings.Repeat("n", 37)+"/", 3) + "n"}

// P9.2: what is no path, ahead of all but the power.
func TestNoPaths(t *testing.T) {
	d := with(t, 1024, mkdir("a"), write("a/f", "x", 1))
	for _, p := range noPaths {
		for _, o := range []op{write(p, "x", 1), write(p, "x", -1), write(p, strings.Repeat("x", 1024), 1), more(p, "x"), more(p, ""), mkdir(p), link(p, "x", 1), link(p, "", 1), link(p, "x", -1), rename(p, "b"), rename("a", p), rename(p, p), rename("b", p), rename(p, "a"), remove(p)} {
			is(t, d, o, api.ErrPath)
		}
		if n, err := d.Read(p); n != (api.Node{}) || err != api.ErrPath {
			t.Errorf("Read(%q) = %v, %d", p, n, err)
		}
		if p == "" {
			continue
		}
		if l, err := d.List(p); l != nil || err != api.ErrPath {
			t.Errorf("List(%q) = %v, %d", p, l, err)
		}
	}
}

// P9.2: which times and targets there are, ahead of where things stand.
func TestNoArguments(t *testing.T) {
	d := with(t, 1024, mkdir("a"), write("f", "x", 1), link("l", "x", 1))
	full := strings.Repeat("x", 1024)
	for _, p := range []string{"n", "a", "f", "l", "a/n", "b/n", "f/n", "l/n"} {
		for _, time := range []int64{math.MinInt64, -1, 1 << 32, 1 << 33, math.MaxInt64} {
			is(t, d, write(p, "x", time), api.ErrArg)
			is(t, d, write(p, full, time), api.ErrArg)
			is(t, d, link(p, "x", time), api.ErrArg)
			is(t, d, link(p, "", time), api.ErrArg)
		}
		for _, target := range []string{"", strings.Repeat("x", 161), full} {
			is(t, d, link(p, target, 0), api.ErrArg)
		}
	}
	for _, time := range []int64{0, 1, 1<<32 - 1} {
		all(t, d, write("f", "x", time), link("n", "x", time))
		stands(t, d, "f", file("x", time))
		stands(t, d, "n", linkTo("x", time))
		all(t, d, remove("n"))
	}
	for _, target := range []string{"x", "\x00", "//", "a//b", "no/path/../", "\xff", strings.Repeat("x", 159), strings.Repeat("\n", 160)} {
		all(t, d, link("n", target, 1))
		stands(t, d, "n", linkTo(target, 1))
		all(t, d, remove("n"))
	}
}

// P9.2: to is from, or lies within it, whatever is there.
func TestNoRename(t *testing.T) {
	d := with(t, 1024, mkdir("a"), mkdir("a/b"), write("a/f", "x", 1), link("l", "x", 1))
	for _, p := range []string{"a", "a/b", "a/f", "l", "n", "n/m", "a/n", "l/n", "a/f/n"} {
		is(t, d, rename(p, p), api.ErrArg)
		is(t, d, rename(p, p+"/n"), api.ErrArg)
		is(t, d, rename(p, p+"/n/b"), api.ErrArg)
	}
	is(t, d, rename("a", "a/b"), api.ErrArg)
	is(t, d, rename("a", "a/f"), api.ErrArg)
	// what begins alike lies not within
	all(t, d, rename("a", "ab"), rename("ab/f", "ab/fg"), rename("ab/fg", "ab/f"), rename("ab", "a"))
}

// P9.2: each error ahead of those behind it.
func TestErrors(t *testing.T) {
	full := strings.Repeat("x", 1024)
	deep := "e/e/e/e/e"
	d := with(t, 1024,
		mkdir("a"), mkdir("a/b"), write("a/b/f", "x", 1), write("f", "x", 1), link("l", "x", 1), mkdir("m"), write("m/f", "x", 1), mkdir("o"),
		mkdir("e"), mkdir("e/e"), mkdir("e/e/e"), mkdir("e/e/e/e"), mkdir(deep))
	for _, x := range []struct {
		o    op
		want api.Errno
	}{
		// nothing is there
		{more("n", full), api.ErrNone},
		{more("a/n", ""), api.ErrNone},
		{more("f/n", ""), api.ErrNone},
		{more("n/n", ""), api.ErrNone},
		{remove("n"), api.ErrNone},
		{remove("a/n"), api.ErrNone},
		{remove("f/n"), api.ErrNone},
		{remove("n/n"), api.ErrNone},
		{rename("n", "k"), api.ErrNone},
		{rename("n", "f/k"), api.ErrNone},
		{rename("n", "k/k"), api.ErrNone},
		{rename("n", "a"), api.ErrNone},
		{rename("f/n", "k"), api.ErrNone},
		{rename("n/n", "f/k"), api.ErrNone},
		// no parent
		{write("n/n", full, 1), api.ErrNone},
		{write("a/n/n", "", 1), api.ErrNone},
		{write("f/n/n", "", 1), api.ErrNone},
		{mkdir("n/n"), api.ErrNone},
		{mkdir("l/n/n"), api.ErrNone},
		{link("n/n", "x", 1), api.ErrNone},
		{link("n/n/n", "x", 1), api.ErrNone},
		{rename("f", "n/n"), api.ErrNone},
		{rename("a", "n/n"), api.ErrNone},
		{rename("a", "f/n/n"), api.ErrNone},
		// the parent is no directory
		{write("f/n", full, 1), api.ErrDir},
		{write("l/n", "", 1), api.ErrDir},
		{mkdir("f/n"), api.ErrDir},
		{mkdir("l/n"), api.ErrDir},
		{mkdir("a/b/f/n"), api.ErrDir},
		{link("f/n", "x", 1), api.ErrDir},
		{link("l/n", "x", 1), api.ErrDir},
		{rename("a", "f/n"), api.ErrDir},
		{rename("l", "f/n"), api.ErrDir},
		{rename("f", "l/n"), api.ErrDir},
		// something is there
		{write("a", full, 1), api.ErrDir},
		{write("o", "", 1), api.ErrDir},
		{write("a/b", "x", 1), api.ErrDir},
		{write("l", full, 1), api.ErrKind},
		{write("l", "", 1), api.ErrKind},
		{more("a", full), api.ErrDir},
		{more("a/b", ""), api.ErrDir},
		{more("l", full), api.ErrKind},
		{more("l", ""), api.ErrKind},
		{mkdir("a"), api.ErrThere},
		{mkdir("f"), api.ErrThere},
		{mkdir("l"), api.ErrThere},
		{mkdir("a/b/f"), api.ErrThere},
		{link("a", "x", 1), api.ErrThere},
		{link("f", "x", 1), api.ErrThere},
		{link("l", "x", 1), api.ErrThere},
		{link("a/b", "x", 1), api.ErrThere},
		// directories
		{rename("f", "a"), api.ErrDir},
		{rename("f", "o"), api.ErrDir},
		{rename("l", "o"), api.ErrDir},
		{rename("a", "o"), api.ErrDir},
		{rename("o", "a"), api.ErrDir},
		{rename("o", "f"), api.ErrDir},
		{rename("o", "l"), api.ErrDir},
		{rename("a", "f"), api.ErrDir},
		{rename("a/b", "a"), api.ErrDir},
		{rename("a/b/f", "a/b"), api.ErrDir},
		{rename("a/b/f", "a"), api.ErrDir},
		{rename("e", "a/b/f"), api.ErrDir},
		// too deep
		{rename("m", deep+"/n"), api.ErrPath},
		{rename("a", "e/e/e/e/n"), api.ErrPath},
		{rename("a", deep), api.ErrDir}, // ahead of it
		// in use
		{remove("a"), api.ErrBusy},
		{remove("a/b"), api.ErrBusy},
		{remove("e/e/e/e"), api.ErrBusy},
		// no room
		{write("n", full, 1), api.ErrFull},
		{write("f", full, 1), api.ErrFull},
		{more("f", full), api.ErrFull},
	} {
		is(t, d, x.o, x.want)
	}
	ok(t, d.Fuse(0))
	for _, o := range []op{write("", "", -1), write("n", "x", 1), more("", ""), more("f", "x"), mkdir(""), mkdir("n"), link("", "", -1), link("n", "x", 1), rename("", ""), rename("f", "f"), rename("f", "n"), remove(""), remove("n"), remove("f")} {
		is(t, d, o, api.ErrClosed)
	}
}

// P9.2: what each effect does.
func TestEffects(t *testing.T) {
	d := made(t, 1024)
	all(t, d, write("f", "one", 5))
	stands(t, d, "f", file("one", 5))
	all(t, d, write("f", "2", 0))
	stands(t, d, "f", file("2", 0))
	all(t, d, write("f", "", 7), more("f", "a"), more("f", ""), more("f", "\x00\xff"))
	stands(t, d, "f", file("a\x00\xff", 7))
	all(t, d, mkdir("d"), mkdir("d/e"), write("d/e/g", "g", 1), link("d/l", "t", 9))
	stands(t, d, "d", dir)
	stands(t, d, "d/e", dir)
	stands(t, d, "d/e/g", file("g", 1))
	stands(t, d, "d/l", linkTo("t", 9))
	paths(t, d, "d", "d/e", "d/e/g", "d/l", "f")
	numbers(t, d, 5*64+4, 10, false)
	all(t, d, remove("d/l"), remove("d/e/g"))
	gone(t, d, "d/l", "d/e/g")
	stands(t, d, "d/e", dir)
	all(t, d, remove("d/e"), remove("d"), remove("f"))
	gone(t, d, "d/e", "d", "f")
	numbers(t, d, 0, 15, false)
	paths(t, d)
	all(t, d, link("f", "f", 1), remove("f"), mkdir("f"), remove("f"), write("f", "x", 1))
	stands(t, d, "f", file("x", 1))
}

// P9.2: what is at from, and all within it, is at to.
func TestRename(t *testing.T) {
	begin := []op{mkdir("a"), mkdir("a/b"), write("a/b/f", "x", 1), write("a/f", "yy", 2), link("a/l", "t", 3), mkdir("ab"), write("ab/f", "z", 4), mkdir("d"), write("f", "w", 5), link("l", "t", 6)}
	for _, x := range []struct {
		from, to string
		want     []string // what is told behind it: paths and what is there
	}{
		{"a", "c", []string{"ab", "ab/f", "c", "c/b", "c/b/f", "c/f", "c/l", "d", "f", "l"}},
		{"a", "d/c", []string{"ab", "ab/f", "d", "d/c", "d/c/b", "d/c/b/f", "d/c/f", "d/c/l", "f", "l"}},
		{"a", "ab/a", []string{"ab", "ab/a", "ab/a/b", "ab/a/b/f", "ab/a/f", "ab/a/l", "ab/f", "d", "f", "l"}},
		{"a/b", "b", []string{"a", "a/f", "a/l", "ab", "ab/f", "b", "b/f", "d", "f", "l"}},
		{"a/b", "a/bb", []string{"a", "a/bb", "a/bb/f", "a/f", "a/l", "ab", "ab/f", "d", "f", "l"}},
		{"d", "a/b/d", []string{"a", "a/b", "a/b/d", "a/b/f", "a/f", "a/l", "ab", "ab/f", "f", "l"}},
		{"f", "g", []string{"a", "a/b", "a/b/f", "a/f", "a/l", "ab", "ab/f", "d", "g", "l"}},
		{"f", "a/f", []string{"a", "a/b", "a/b/f", "a/f", "a/l", "ab", "ab/f", "d", "l"}},
		{"f", "l", []string{"a", "a/b", "a/b/f", "a/f", "a/l", "ab", "ab/f", "d", "l"}},
		{"l", "f", []string{"a", "a/b", "a/b/f", "a/f", "a/l", "ab", "ab/f", "d", "f"}},
		{"a/l", "l", []string{"a", "a/b", "a/b/f", "a/f", "ab", "ab/f", "d", "f", "l"}},
		{"a/b/f", "a/f", []string{"a", "a/b", "a/f", "a/l", "ab", "ab/f", "d", "f", "l"}},
	} {
		d := with(t, 1024, begin...)
		was := d.Copy()
		all(t, d, rename(x.from, x.to))
		paths(t, d, x.want...)
		used := 0
		for _, p := range d.Paths() {
			before := p
			if p == x.to || path.Within(p, x.to) {
				before = x.from + p[len(x.to):]
			}
			n, err := was.Read(before)
			ok(t, err)
			stands(t, d, p, n)
			used += 64 + len(n.Data)
		}
		numbers(t, d, used, len(begin)+1, false)
	}
}

// P9.2: what would be at no path: too deep, too long, or in a parent that is too long.
func TestRenameTooFar(t *testing.T) {
	d := with(t, 4096, mkdir("a"), mkdir("a/b"), mkdir("a/b/c"), write("a/b/c/f", "", 1), mkdir("e"), mkdir("e/e"), mkdir("e/e/e"))
	is(t, d, rename("a", "e/e/e/a"), api.ErrPath)
	is(t, d, rename("a", "e/e/e/b"), api.ErrPath)
	all(t, d, rename("a/b", "e/e/e/b"), rename("e/e/e/b", "a/b"), rename("a", "e/e/a"))
	stands(t, d, "e/e/a/b/c/f", file("", 1))

	// 48 + 1 + 48 bytes, and what lies within
	n := strings.Repeat("n", 48)
	d = with(t, 4096, mkdir(n), mkdir("a"), mkdir("a/"+n[:13]), mkdir("a/"+n[:14]), write("a/"+n[:13]+"/"+n, "", 1))
	is(t, d, rename("a", n+"/"+n), api.OK)
	is(t, d, rename(n+"/"+n, "a"), api.OK)
	all(t, d, write("a/"+n[:14]+"/f", "", 1))
	is(t, d, rename("a", n+"/"+n), api.ErrPath) // a parent of 112 bytes
	all(t, d, remove("a/"+n[:14]+"/f"), rename("a", n+"/"+n))
	stands(t, d, n+"/"+n+"/"+n[:13]+"/"+n, file("", 1))

	// a file has nothing within it
	d = with(t, 1024, write("f", "", 1), write("g", "", 1), mkdir("e"), mkdir("e/e"), mkdir("e/e/e"), mkdir("e/e/e/e"), mkdir("e/e/e/e/e"))
	all(t, d, rename("f", "e/e/e/e/e/f"), rename("g", "e/e/e/e/e/f"), mkdir("d"), rename("d", "e/e/e/e/e/d"))
}

// P9.2: the room, up to its last byte.
func TestRoom(t *testing.T) {
	for _, room := range []int{1024, 1025, 4000} {
		part := room - 128
		data := strings.Repeat("x", part)
		d := with(t, room, mkdir("d"))
		is(t, d, write("d/f", data+"y", 1), api.ErrFull)
		all(t, d, write("d/f", data, 1))
		numbers(t, d, room, 2, false)
		for _, o := range []op{more("d/f", "y"), write("d/f", data+"y", 1), write("f", "", 1), mkdir("e"), link("l", "t", 1)} {
			is(t, d, o, api.ErrFull)
		}
		all(t, d, more("d/f", ""), write("d/f", strings.Repeat("y", part), 2), rename("d/f", "d/g"), rename("d", "f"))
		all(t, d, write("f/g", data[:part-64], 1), link("l", strings.Repeat("t", 160), 1))
		numbers(t, d, room, 8, false)
		all(t, d, rename("l", "f/g"))
		numbers(t, d, 128, 9, false)
		all(t, d, remove("f/g"), write("g", data[:part-1], 1))
		is(t, d, more("g", "yz"), api.ErrFull)
		all(t, d, more("g", "y"))
		numbers(t, d, room, 12, false)
	}
	d := made(t, 1024)
	for i := range 16 {
		all(t, d, mkdir("d"+strconv.Itoa(i)))
	}
	is(t, d, mkdir("d"), api.ErrFull)
	is(t, d, write("d", "", 1), api.ErrFull)
	is(t, d, link("d", "t", 1), api.ErrFull)
	all(t, d, remove("d7"), link("d", "t", 1))
	is(t, d, mkdir("d7"), api.ErrFull)
}

// P9.4: List goes by bytes, Paths by the order of paths.
func TestLooks(t *testing.T) {
	d := with(t, 4096, write("b", "", 1), mkdir("a"), mkdir("a b"), write("a-c", "", 1), write("a/z", "", 1), write("a/b", "", 1), mkdir("a/b c"), write("a/b c/x", "", 1), write("a/b-c", "", 1), link("A", "t", 1), write("\xff", "", 1), mkdir("é"), write("~t~x", "", 1))
	lists(t, d, "", "A", "a", "a b", "a-c", "b", "~t~x", "é", "\xff")
	lists(t, d, "a", "b", "b c", "b-c", "z")
	lists(t, d, "a/b c", "x")
	lists(t, d, "a b")
	paths(t, d, "A", "a", "a/b", "a/b c", "a/b c/x", "a/b-c", "a/z", "a b", "a-c", "b", "~t~x", "é", "\xff")
	for _, x := range []struct {
		p    string
		want api.Errno
	}{{"n", api.ErrNone}, {"a/n", api.ErrNone}, {"b/n", api.ErrNone}, {"b", api.ErrDir}, {"A", api.ErrDir}, {"a/b", api.ErrDir}} {
		if l, err := d.List(x.p); l != nil || err != x.want {
			t.Errorf("List(%q) = %q, %d", x.p, l, err)
		}
	}
	gone(t, d, "n", "a/n", "b/n", "A/n")
}

// P9.3: what a pick does.
func TestCrashPicks(t *testing.T) {
	for _, x := range []struct {
		picks []byte
		write string // - is none
		more  string
	}{
		{nil, "-", "ab"},
		{[]byte{0}, "-", "ab"},
		{[]byte{0, 0}, "-", "ab"},
		{[]byte{1}, "data", "ab"},
		{[]byte{2}, "", "ab"},
		{[]byte{3}, "d", "ab"},
		{[]byte{5}, "dat", "ab"},
		{[]byte{6}, "data", "ab"},
		{[]byte{7}, "data", "ab"},
		{[]byte{255}, "data", "ab"},
		{[]byte{0, 1}, "-", "abmore"},
		{[]byte{0, 2}, "-", "ab"},
		{[]byte{0, 3}, "-", "abm"},
		{[]byte{0, 5}, "-", "abmor"},
		{[]byte{0, 6}, "-", "abmore"},
		{[]byte{0, 255}, "-", "abmore"},
		{[]byte{4, 4}, "da", "abmo"},
		{[]byte{4, 4, 1}, "da", "abmo"},
		{[]byte{1, 1, 9, 0, 255}, "data", "abmore"},
	} {
		d := with(t, 1024, write("m", "ab", 1))
		ok(t, d.Sync())
		all(t, d, write("w", "data", 2), more("m", "more"))
		picks := slices.Clone(x.picks)
		ok(t, d.Crash(picks))
		if !slices.Equal(picks, x.picks) {
			t.Errorf("Crash(%v) changed its picks: %v", x.picks, picks)
		}
		if x.write == "-" {
			gone(t, d, "w")
		} else {
			stands(t, d, "w", file(x.write, 2))
		}
		stands(t, d, "m", file(x.more, 1))
		numbers(t, d, d.Used(), 0, false)
		now := told(d)
		ok(t, d.Crash([]byte{1, 1, 1}))
		if told(d) != now {
			t.Errorf("%v: does not last: %s, %s", x.picks, told(d), now)
		}
	}
	long := strings.Repeat("0123456789", 40)
	for pick := 2; pick < 256; pick++ {
		d := with(t, 1024, write("f", long, 1), more("f", long))
		ok(t, d.Crash([]byte{byte(pick), byte(257 - pick)}))
		stands(t, d, "f", file(long[:pick-2]+long[:255-pick], 1))
	}
}

// P9.3: what has no data is done by every pick but 0.
func TestCrashOthers(t *testing.T) {
	for pick := range 256 {
		d := with(t, 1024, mkdir("d"), write("r", "x", 1), write("f", "x", 1))
		ok(t, d.Sync())
		all(t, d, mkdir("d/e"), link("l", "target", 3), rename("f", "d/g"), remove("r"))
		p := byte(pick)
		ok(t, d.Crash([]byte{p, p, p, p}))
		if pick == 0 {
			paths(t, d, "d", "f", "r")
			continue
		}
		paths(t, d, "d", "d/e", "d/g", "l")
		stands(t, d, "l", linkTo("target", 3))
		stands(t, d, "d/g", file("x", 1))
	}
}

// P9.3: what would answer an error now is lost.
func TestCrashErrors(t *testing.T) {
	for _, x := range []struct {
		begin, since []op
		picks        []byte
		want         []string
	}{
		{nil, []op{mkdir("a"), write("a/f", "x", 1), link("a/l", "t", 1), mkdir("a/d"), write("f", "x", 1)}, []byte{0, 1, 1, 1, 1}, []string{"f"}},
		{nil, []op{write("f", "x", 1), more("f", "y"), rename("f", "g"), remove("g"), mkdir("d")}, []byte{0, 1, 1, 1, 1}, []string{"d"}},
		{nil, []op{write("f", "x", 1), rename("f", "g"), remove("g"), mkdir("d")}, []byte{1, 0, 1, 1}, []string{"d", "f"}},
		{[]op{mkdir("a")}, []op{remove("a"), write("a", "x", 1), more("a", "y"), remove("a"), mkdir("a"), mkdir("a/b")}, []byte{0, 1, 1, 0, 1, 1}, []string{"a", "a/b"}},
		{[]op{mkdir("a")}, []op{rename("a", "b"), mkdir("a"), mkdir("a/c"), remove("b")}, []byte{0, 1, 1, 1}, []string{"a", "a/c"}},
		{[]op{mkdir("a"), write("a/f", "x", 1)}, []op{remove("a/f"), remove("a"), link("a", "t", 1)}, []byte{0, 1, 1}, []string{"a", "a/f"}},
		{[]op{mkdir("a"), write("a/f", "x", 1), mkdir("e"), mkdir("e/e"), mkdir("e/e/e"), mkdir("e/e/e/e"), mkdir("e/e/e/e/e")}, []op{remove("a/f"), rename("a", "e/e/e/e/e/a"), mkdir("e/b")}, []byte{0, 1, 1}, []string{"a", "a/f", "e", "e/b", "e/e", "e/e/e", "e/e/e/e", "e/e/e/e/e"}},
	} {
		d := with(t, 1024, x.begin...)
		ok(t, d.Sync())
		all(t, d, x.since...)
		ok(t, d.Crash(x.picks))
		paths(t, d, x.want...)
	}
	// no room for what is whole, but for its beginning
	big, rest := strings.Repeat("b", 600), strings.Repeat("r", 700)
	for _, x := range []struct {
		picks []byte
		want  api.Node
	}{{[]byte{0, 1, 1}, api.Node{}}, {[]byte{0, 202, 0}, file(rest[:200], 2)}, {[]byte{0, 1, 202}, api.Node{}}, {[]byte{0, 100, 202}, file(rest[:98]+"m", 2)}, {[]byte{1, 1, 1}, file(rest+"m", 2)}} {
		d := with(t, 1024, write("f", big, 1))
		ok(t, d.Sync())
		all(t, d, remove("f"), write("g", rest, 2), more("g", "m"))
		ok(t, d.Crash(x.picks))
		if x.want.Kind == 0 {
			gone(t, d, "g")
			continue
		}
		stands(t, d, "g", x.want)
	}
}

// P9.3, P9.5: what lasts.
func TestSync(t *testing.T) {
	d := with(t, 1024, mkdir("a"), write("a/f", "x", 1))
	numbers(t, d, 129, 2, false)
	ok(t, d.Sync())
	numbers(t, d, 129, 0, false)
	ok(t, d.Crash([]byte{0, 0, 7}))
	paths(t, d, "a", "a/f")
	all(t, d, more("a/f", "y"), mkdir("b"))
	ok(t, d.Sync())
	ok(t, d.Sync())
	all(t, d, remove("b"), write("a/f", "new", 2), rename("a", "c"))
	ok(t, d.Crash(nil))
	paths(t, d, "a", "a/f", "b")
	stands(t, d, "a/f", file("xy", 1))
	numbers(t, d, 64*3+2, 0, false)
	all(t, d, remove("b"), write("a/f", "new", 2), rename("a", "c"))
	ok(t, d.Crash([]byte{1, 1, 1}))
	paths(t, d, "c", "c/f")
	ok(t, d.Crash(nil))
	paths(t, d, "c", "c/f")
	stands(t, d, "c/f", file("new", 2))
	// a crash without a Sync leads back to the empty tree
	d = with(t, 1024, mkdir("a"), write("a/f", "x", 1))
	ok(t, d.Crash(nil))
	paths(t, d)
	numbers(t, d, 0, 0, false)
	all(t, d, write("f", strings.Repeat("x", 960), 1))
}

// P9.3: how long a fuse is.
func TestFuse(t *testing.T) {
	for n := range 6 {
		d := with(t, 1024, mkdir("a"))
		ok(t, d.Fuse(n))
		for i := range n {
			if d.Off() {
				t.Errorf("a fuse of %d is out behind %d", n, i)
			}
			// what is an error does not count
			is(t, d, mkdir("a"), api.ErrThere)
			is(t, d, remove("n"), api.ErrNone)
			if i%3 == 1 {
				ok(t, d.Sync())
			} else {
				all(t, d, mkdir("d"+strconv.Itoa(i)))
			}
			// nor does a look
			d.Paths()
			d.List("")
			d.Read("a")
			d.Copy()
		}
		pending, now := d.Pending(), told(d)
		numbers(t, d, d.Used(), pending, true)
		is(t, d, mkdir("a"), api.ErrClosed)
		is(t, d, mkdir("n"), api.ErrClosed)
		if d.Sync() != api.ErrClosed || d.Fuse(9) != api.ErrClosed || d.Fuse(0) != api.ErrClosed || d.Fuse(-1) != api.ErrArg {
			t.Errorf("a fuse of %d: the power is not gone", n)
		}
		if told(d) != now || d.Pending() != pending || !d.Off() || d.Room() != 1024 {
			t.Errorf("a fuse of %d: %s, not %s", n, told(d), now)
		}
		lists(t, d, "a")
		ok(t, d.Crash([]byte{1, 1, 1, 1, 1, 1}))
		if d.Off() || told(d) != now {
			t.Errorf("a fuse of %d: %s, not %s", n, told(d), now)
		}
		for i := range 10 {
			all(t, d, more2(i))
		}
	}
}

// more2 is the i-th of calls that each are OK.
func more2(i int) op {
	if i%2 == 0 {
		return mkdir("z")
	}
	return remove("z")
}

// P9.3: a fuse in the place of another one, one that a crash takes, and those that are none.
func TestFuses(t *testing.T) {
	d := made(t, 1024)
	ok(t, d.Fuse(2))
	all(t, d, mkdir("a"))
	ok(t, d.Fuse(3))
	all(t, d, mkdir("b"), mkdir("c"))
	if err := d.Fuse(-1); err != api.ErrArg || d.Off() {
		t.Errorf("Fuse(-1) = %d", err)
	}
	if err := d.Fuse(math.MinInt); err != api.ErrArg {
		t.Errorf("Fuse = %d", err)
	}
	all(t, d, mkdir("d"))
	numbers(t, d, 256, 4, true)
	ok(t, d.Crash(nil))
	ok(t, d.Fuse(1))
	ok(t, d.Crash(nil))
	for i := range 10 {
		all(t, d, more2(i))
	}
	ok(t, d.Fuse(math.MaxInt))
	for i := range 10 {
		all(t, d, more2(i))
	}
	ok(t, d.Fuse(1))
	ok(t, d.Sync())
	is(t, d, mkdir("z"), api.ErrClosed)
	ok(t, d.Crash(nil))
	// each effect counts
	for _, o := range []op{write("n", "", 1), more("f", ""), mkdir("n"), link("n", "t", 1), rename("f", "n"), remove("f")} {
		d := with(t, 1024, write("f", "x", 1))
		ok(t, d.Fuse(1))
		all(t, d, o)
		numbers(t, d, d.Used(), 2, true)
	}
	// what a crash does anew does not
	d = with(t, 1024, mkdir("a"), mkdir("b"), mkdir("c"))
	ok(t, d.Fuse(1))
	ok(t, d.Crash([]byte{1, 1, 1}))
	paths(t, d, "a", "b", "c")
	all(t, d, mkdir("d"), mkdir("e"))
	ok(t, d.Fuse(0))
	if !d.Off() {
		t.Error("a fuse of 0 leaves the power")
	}
	ok(t, d.Crash([]byte{1, 1}))
	paths(t, d, "a", "b", "c", "d", "e")
}

// P9.4, P9.6: a copy and its disk do not know of each other.
func TestCopy(t *testing.T) {
	d := with(t, 1024, mkdir("a"), write("a/f", "x", 1))
	ok(t, d.Sync())
	all(t, d, more("a/f", "y"), mkdir("b"))
	ok(t, d.Fuse(2))
	c := d.Copy()
	if told(c) != told(d) || c.Room() != 1024 {
		t.Errorf("%s, not %s", told(c), told(d))
	}
	numbers(t, c, d.Used(), 2, false)
	all(t, d, write("a/f", "d", 2), remove("b"))
	stands(t, c, "a/f", file("xy", 1))
	numbers(t, c, 194, 2, false)
	all(t, c, mkdir("c"))
	gone(t, d, "c")
	numbers(t, d, 129, 4, true)
	numbers(t, c, 258, 3, false)
	e := c.Copy()
	all(t, c, write("a/f", "cc", 3))
	all(t, e, write("a/f", "eee", 4))
	numbers(t, c, 258, 4, true)
	numbers(t, e, 259, 4, true)
	off := e.Copy()
	numbers(t, off, 259, 4, true)
	ok(t, off.Crash([]byte{1, 1, 1, 1}))
	numbers(t, off, 259, 0, false)
	numbers(t, e, 259, 4, true)
	ok(t, c.Crash([]byte{0, 1, 1, 1}))
	stands(t, c, "a/f", file("cc", 3))
	paths(t, c, "a", "a/f", "b", "c")
	ok(t, e.Crash([]byte{1, 0, 0, 0}))
	stands(t, e, "a/f", file("xy", 1))
	paths(t, e, "a", "a/f")
	ok(t, d.Crash(nil))
	stands(t, d, "a/f", file("x", 1))
	paths(t, d, "a", "a/f")
	all(t, d, remove("a/f"))
	ok(t, e.Crash(nil))
	paths(t, e, "a", "a/f")
	ok(t, d.Sync())
	ok(t, off.Crash(nil))
	stands(t, off, "a/f", file("eee", 4))
}

// P9.7: what is answered is new memory.
func TestNewMemory(t *testing.T) {
	d := with(t, 1024, mkdir("a"), write("a/b", "x", 1), write("a/c", "y", 1), write("b", "z", 1))
	now := told(d)
	for range 3 {
		l, _ := d.List("a")
		all := d.Paths()
		for i := range l {
			l[i] = "other"
		}
		for i := range all {
			all[i] = "other"
		}
		_, _ = append(l, "more"), append(all, "more")
	}
	lists(t, d, "a", "b", "c")
	paths(t, d, "a", "a/b", "a/c", "b")
	if told(d) != now {
		t.Errorf("%s, not %s", told(d), now)
	}
	picks := []byte{1, 1, 1, 1}
	ok(t, d.Crash(picks))
	clear(picks)
	if told(d) != now {
		t.Errorf("%s, not %s", told(d), now)
	}
}

// spot is a node at its path.
type spot struct {
	p string
	n api.Node
}

// model is a disk by the chapter's words: lists of what stands, and of what was done.
type model struct {
	room      int
	now, last []spot
	since     []op
	fuse      int
}

func find(l []spot, p string) (api.Node, bool) {
	for _, s := range l {
		if s.p == p {
			return s.n, true
		}
	}
	return api.Node{}, false
}

func usedBy(l []spot) int {
	used := 0
	for _, s := range l {
		used += 64 + len(s.n.Data)
	}
	return used
}

// without answers what stands but at p.
func without(l []spot, p string) []spot {
	var left []spot
	for _, s := range l {
		if s.p != p {
			left = append(left, s)
		}
	}
	return left
}

func someWithin(l []spot, p string) []spot {
	var in []spot
	for _, s := range l {
		if path.Within(s.p, p) {
			in = append(in, s)
		}
	}
	return in
}

// errorOf is the first error of a call, but for the room.
func errorOf(l []spot, o op) api.Errno {
	at, there := find(l, o.p)
	home := o.p
	if o.do == "Rename" {
		home = o.q
	}
	parent, _ := path.Parent(home)
	parentNode, parentThere := find(l, parent)
	target, targetThere := find(l, o.q)
	timed := o.do == "Write" || o.do == "Link"
	onFile := o.do == "Write" || o.do == "Append"
	anew := o.do == "Mkdir" || o.do == "Link"
	needs := o.do == "Append" || o.do == "Remove" || o.do == "Rename"
	puts := o.do != "Append" && o.do != "Remove"
	tooFar := false
	for _, s := range someWithin(l, o.p) {
		tooFar = tooFar || !path.May(o.q+strings.TrimPrefix(s.p, o.p))
	}
	for _, x := range []struct {
		holds bool
		err   api.Errno
	}{
		{!path.May(o.p) || !path.May(home), api.ErrPath},
		{timed && (o.time < 0 || o.time > 4294967295), api.ErrArg},
		{o.do == "Link" && (o.q == "" || len(o.q) > 160), api.ErrArg},
		{o.do == "Rename" && (o.q == o.p || strings.HasPrefix(o.q, o.p+"/")), api.ErrArg},
		{needs && !there, api.ErrNone},
		{puts && parent != "" && !parentThere, api.ErrNone},
		{puts && parent != "" && parentNode.Kind != api.KDir, api.ErrDir},
		{onFile && at.Kind == api.KDir, api.ErrDir},
		{onFile && at.Kind == api.KLink, api.ErrKind},
		{anew && there, api.ErrThere},
		{o.do == "Rename" && target.Kind == api.KDir, api.ErrDir},
		{o.do == "Rename" && at.Kind == api.KDir && targetThere, api.ErrDir},
		{o.do == "Rename" && tooFar, api.ErrPath},
		{o.do == "Remove" && at.Kind == api.KDir && len(someWithin(l, o.p)) > 0, api.ErrBusy},
	} {
		if x.holds {
			return x.err
		}
	}
	return api.OK
}

// done answers what stands behind a call that has no error.
func done(l []spot, o op) []spot {
	at, _ := find(l, o.p)
	switch o.do {
	case "Write":
		return append(without(l, o.p), spot{o.p, file(o.q, o.time)})
	case "Append":
		return append(without(l, o.p), spot{o.p, file(at.Data+o.q, at.Time)})
	case "Mkdir":
		return append(without(l, o.p), spot{o.p, dir})
	case "Link":
		return append(without(l, o.p), spot{o.p, linkTo(o.q, o.time)})
	case "Remove":
		return without(l, o.p)
	}
	var moved []spot
	for _, s := range without(l, o.q) {
		if s.p == o.p || path.Within(s.p, o.p) {
			s.p = o.q + s.p[len(o.p):]
		}
		moved = append(moved, s)
	}
	return moved
}

func (m *model) apply(l []spot, o op) ([]spot, api.Errno) {
	if err := errorOf(l, o); err != api.OK {
		return l, err
	}
	next := done(l, o)
	if usedBy(next) > m.room {
		return l, api.ErrFull
	}
	return next, api.OK
}

func (m *model) run(o op) api.Errno {
	if m.fuse == 0 {
		return api.ErrClosed
	}
	next, err := m.apply(m.now, o)
	if err != api.OK {
		return err
	}
	m.now = next
	m.since = append(slices.Clone(m.since), o)
	m.count()
	return api.OK
}

func (m *model) count() {
	if m.fuse > 0 {
		m.fuse--
	}
}

func (m *model) sync() api.Errno {
	if m.fuse == 0 {
		return api.ErrClosed
	}
	m.last, m.since = m.now, nil
	m.count()
	return api.OK
}

func (m *model) crash(picks []byte) {
	l := m.last
	for k, o := range m.since {
		pick := 0
		if k < len(picks) {
			pick = int(picks[k])
		}
		if pick == 0 {
			continue
		}
		if pick > 1 && (o.do == "Write" || o.do == "Append") && pick-2 < len(o.q) {
			o.q = o.q[:pick-2]
		}
		l, _ = m.apply(l, o)
	}
	m.now, m.last, m.since, m.fuse = l, l, nil, -1
}

func (m *model) told() string {
	l := slices.Clone(m.now)
	slices.SortFunc(l, func(a, b spot) int { return path.Cmp(a.p, b.p) })
	var b strings.Builder
	for _, s := range l {
		b.WriteString(strconv.Quote(s.p) + " 0 " + text(s.n) + "\n")
	}
	return b.String() + strconv.Itoa(usedBy(l))
}

// same holds a disk against its model.
func same(t *testing.T, d *disk.Disk, m *model) {
	t.Helper()
	if told(d) != m.told() || d.Pending() != len(m.since) || d.Off() != (m.fuse == 0) || d.Room() != m.room {
		t.Fatalf("told %s, Pending = %d, Off = %t, not %s, %d, %t", told(d), d.Pending(), d.Off(), m.told(), len(m.since), m.fuse == 0)
	}
	for _, s := range append(slices.Clone(m.now), spot{"", dir}) {
		parent, _ := path.Parent(s.p)
		if n, _ := find(m.now, parent); parent != "" && n.Kind != api.KDir {
			t.Fatalf("%q has no parent: %s", s.p, told(d))
		}
		var names []string
		for _, in := range m.now {
			if home, _ := path.Parent(in.p); home == s.p {
				names = append(names, path.Base(in.p))
			}
		}
		slices.Sort(names)
		l, err := d.List(s.p)
		if s.n.Kind != api.KDir && (l != nil || err != api.ErrDir) || s.n.Kind == api.KDir && (!slices.Equal(l, names) || err != api.OK) {
			t.Fatalf("List(%q) = %q, %d, not %q", s.p, l, err, names)
		}
	}
}

var long = strings.Repeat("n", 48)

// somePath answers paths of few names, so that they meet.
func somePath(r *rand.Rand) string {
	names := []string{"a", "b", "a b", "a-c", "ab", long}
	if r.Intn(3) > 0 {
		names = names[:2]
	}
	var l []string
	for range 1 + r.Intn(1+r.Intn(6)) {
		l = append(l, names[r.Intn(len(names))])
	}
	if r.Intn(40) == 0 {
		return noPaths[r.Intn(len(noPaths))]
	}
	return strings.Join(l, "/")
}

func someText(r *rand.Rand) string {
	b := make([]byte, r.Intn(1+r.Intn(40)))
	if r.Intn(8) == 0 {
		b = make([]byte, r.Intn(400))
	}
	r.Read(b)
	return string(b)
}

func someTime(r *rand.Rand) int64 {
	if r.Intn(20) == 0 {
		return []int64{-1, 1 << 32, math.MinInt64, math.MaxInt64, 1<<32 - 1, 0}[r.Intn(6)]
	}
	return r.Int63n(1 << 32)
}

func someOp(r *rand.Rand, there []string) op {
	p := func() string {
		if len(there) > 0 && r.Intn(2) == 0 {
			return there[r.Intn(len(there))]
		}
		return somePath(r)
	}
	switch r.Intn(9) {
	case 0, 1:
		return write(p(), someText(r), someTime(r))
	case 2:
		return more(p(), someText(r))
	case 3, 4:
		return mkdir(p())
	case 5:
		return link(p(), someText(r), someTime(r))
	case 6, 7:
		return rename(p(), p())
	}
	return remove(p())
}

func somePicks(r *rand.Rand, n int) []byte {
	picks := make([]byte, r.Intn(n+2))
	for i := range picks {
		picks[i] = []byte{0, 1, 1, 1, byte(r.Intn(20)), byte(r.Intn(256))}[r.Intn(6)]
	}
	return picks
}

// P9.2 to P9.6: random calls against the model.
func TestRandom(t *testing.T) {
	for seed := range int64(300) {
		r := rand.New(rand.NewSource(seed))
		room := 1024 + r.Intn(2)*r.Intn(2000)
		d, m := made(t, room), &model{room: room, fuse: -1}
		for range 150 {
			switch r.Intn(40) {
			case 0, 1:
				if got, want := d.Sync(), m.sync(); got != want {
					t.Fatalf("%d: Sync = %d, not %d", seed, got, want)
				}
			case 2, 3:
				lasting(t, r, d)
				picks := somePicks(r, len(m.since))
				ok(t, d.Crash(picks))
				m.crash(picks)
			case 4:
				n, want := r.Intn(30)-1, api.OK
				if n < 0 {
					want = api.ErrArg
				} else if m.fuse == 0 {
					want = api.ErrClosed
				} else {
					m.fuse = n
				}
				if got := d.Fuse(n); got != want {
					t.Fatalf("%d: Fuse(%d) = %d, not %d", seed, n, got, want)
				}
			case 5:
				old := d
				d = d.Copy()
				spoil(r, old)
			default:
				o := someOp(r, d.Paths())
				if got, want := run(d, o), m.run(o); got != want {
					t.Fatalf("%d: %q = %d, not %d, of %s", seed, o, got, want, told(d))
				}
			}
			same(t, d, m)
		}
	}
}

// lasting tells that P9.5 holds of a disk, by its copies.
func lasting(t *testing.T, r *rand.Rand, d *disk.Disk) {
	t.Helper()
	now := told(d)
	c := d.Copy()
	c.Crash(slices.Repeat([]byte{1}, c.Pending()))
	if told(c) != now {
		t.Errorf("a crash of all picks 1: %s, not %s", told(c), now)
	}
	c.Crash(somePicks(r, 9))
	if told(c) != now {
		t.Errorf("a crash behind a crash: %s, not %s", told(c), now)
	}
	c = d.Copy()
	c.Crash(nil)
	none := told(c)
	c = d.Copy()
	if c.Sync() == api.OK {
		c.Crash(somePicks(r, 9))
		if told(c) != now {
			t.Errorf("a crash behind Sync: %s, not %s", told(c), now)
		}
	}
	c = d.Copy()
	c.Crash(make([]byte, c.Pending()+1))
	if told(c) != none {
		t.Errorf("a crash of all picks 0: %s, not %s", told(c), none)
	}
}

// spoil does what it can to a disk.
func spoil(r *rand.Rand, d *disk.Disk) {
	for i := range 30 {
		run(d, someOp(r, d.Paths()))
		if i%7 == 3 {
			d.Sync()
		}
		if i%7 == 6 {
			d.Crash(somePicks(r, d.Pending()))
		}
	}
}

// R1: any bytes are taken.
func TestAnyBytes(t *testing.T) {
	r := rand.New(rand.NewSource(1))
	d := made(t, 1024)
	for range 3000 {
		o := op{[]string{"Write", "Append", "Mkdir", "Link", "Rename", "Remove"}[r.Intn(6)], someText(r), someText(r), r.Int63() - 1<<62}
		if r.Intn(2) == 0 {
			o.p = somePath(r)
		}
		if err := run(d, o); err == api.OK && !path.May(o.p) {
			t.Errorf("%q is OK", o)
		}
		d.Read(o.p)
		d.List(o.q)
		if d.Used() > d.Room() {
			t.Fatalf("Used = %d", d.Used())
		}
	}
}

// R1: calls on a full disk end soon.
func TestMany(t *testing.T) {
	d := with(t, 1<<20, mkdir("a"), mkdir("b"))
	n := 1<<14 - 2
	for i := range n {
		if err := d.Write("a/"+strconv.Itoa(i), "", 1); err != api.OK {
			t.Fatalf("Write = %d", err)
		}
	}
	is(t, d, mkdir("c"), api.ErrFull)
	all(t, d, rename("a", "b/a"))
	if l, err := d.List("b/a"); len(l) != n || err != api.OK {
		t.Errorf("List: %d, %d", len(l), err)
	}
	c := d.Copy()
	ok(t, c.Crash(slices.Repeat([]byte{1}, c.Pending())))
	for i := range n {
		if err := d.Remove("b/a/" + strconv.Itoa(i)); err != api.OK {
			t.Fatalf("Remove = %d", err)
		}
	}
	paths(t, d, "b", "b/a")
	if len(c.Paths()) != n+2 {
		t.Errorf("%d paths", len(c.Paths()))
	}
	all(t, d, write("f", "", 1))
	for range 1000 {
		if err := d.Append("f", "0123456789"); err != api.OK {
			t.Fatalf("Append = %d", err)
		}
	}
	numbers(t, d, 3*64+10000, d.Pending(), false)
}
