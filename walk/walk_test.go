package walk_test

import (
	"iter"
	"math/rand"
	"slices"
	"strconv"
	"strings"
	"testing"

	"caravan/api"
	"caravan/block"
	"caravan/disk"
	"caravan/ignore"
	"caravan/path"
	"caravan/sha"
	"caravan/walk"
)

const room = 1 << 16

// noPaths are texts that are no path.
var noPaths = []string{"", "/", "f1/", "/f1", "f1//d", ".", "..", "f1/..", "f1/./d", "a\nb", "\x7f", "a/b/c/d/e/f/g", strings.Repeat("n", 49)}

func newDisk(t *testing.T, room int) *disk.Disk {
	t.Helper()
	d, err := disk.New(room)
	if err != api.OK {
		t.Fatalf("disk.New(%d) = %d", room, err)
	}
	return d
}

func ok(t *testing.T, err api.Errno) {
	t.Helper()
	if err != api.OK {
		t.Fatalf("%d, not OK", err)
	}
}

// with answers a disk with these directories, one behind the other, and empty files within them.
func with(t *testing.T, dirs, files []string) *disk.Disk {
	t.Helper()
	d := newDisk(t, room)
	for _, p := range dirs {
		ok(t, d.Mkdir(p))
	}
	for _, p := range files {
		ok(t, d.Write(p, "", 1))
	}
	return d
}

// listOf answers the list of these patterns.
func listOf(t *testing.T, lines ...string) *ignore.List {
	t.Helper()
	l, err := ignore.Parse([]api.Text{{Name: "i", Text: strings.Join(lines, "\n")}}, "i")
	if err != api.OK {
		t.Fatalf("Parse(%q) = %d", lines, err)
	}
	return l
}

// fileItem, dirItem and linkItem are items by the chapter's words.
func fileItem(p, data string, time int64) api.Record {
	r := api.Record{Path: p, Kind: api.KFile, Size: len(data), Time: time, BlockSize: 16}
	for r.BlockSize*32 < len(data) {
		r.BlockSize *= 2
	}
	for i := 0; i < len(data); i += r.BlockSize {
		r.Blocks = append(r.Blocks, sha.Sum([]byte(data[i:min(i+r.BlockSize, len(data))])))
	}
	return r
}

func dirItem(p string) api.Record { return api.Record{Path: p, Kind: api.KDir} }

func linkItem(p, target string, time int64) api.Record {
	return api.Record{Path: p, Kind: api.KLink, Target: target, Time: time}
}

// alike tells whether all fields are the same.
func alike(a, b api.Record) bool {
	return a.Path == b.Path && a.Kind == b.Kind && a.Deleted == b.Deleted && a.Size == b.Size && a.Time == b.Time && a.By == b.By && a.Vector == b.Vector && a.BlockSize == b.BlockSize && slices.Equal(a.Blocks, b.Blocks) && a.Target == b.Target && a.Seq == b.Seq && a.Flags == b.Flags
}

func isFound(a, b walk.Found) bool {
	return slices.EqualFunc(a.Items, b.Items, alike) && slices.Equal(a.Temps, b.Temps) && slices.Equal(a.Ignored, b.Ignored) && slices.Equal(a.Bad, b.Bad)
}

func isZero(f walk.Found) bool {
	return len(f.Items)+len(f.Temps)+len(f.Ignored)+len(f.Bad) == 0
}

func pathsOf(l []api.Record) []string {
	var paths []string
	for _, r := range l {
		paths = append(paths, r.Path)
	}
	return paths
}

func walked(t *testing.T, d *disk.Disk, root string, l *ignore.List) walk.Found {
	t.Helper()
	f, err := walk.Walk(d, root, l)
	if err != api.OK {
		t.Fatalf("Walk(%q) = %d", root, err)
	}
	return f
}

// finds holds what a walk finds against paths.
func finds(t *testing.T, d *disk.Disk, root string, l *ignore.List, items, temps, ignored, bad []string) {
	t.Helper()
	f := walked(t, d, root, l)
	if got := pathsOf(f.Items); !slices.Equal(got, items) {
		t.Errorf("Items = %q, not %q", got, items)
	}
	for _, x := range []struct {
		what      string
		got, want []string
	}{{"Temps", f.Temps, temps}, {"Ignored", f.Ignored, ignored}, {"Bad", f.Bad, bad}} {
		if !slices.Equal(x.got, x.want) {
			t.Errorf("%s = %q, not %q", x.what, x.got, x.want)
		}
	}
}

func isItem(t *testing.T, d *disk.Disk, root, p string, want api.Record) {
	t.Helper()
	if r, err := walk.Item(d, root, p); err != api.OK || !alike(r, want) {
		t.Errorf("Item(%q, %q) = %v, %d, not %v", root, p, r, err, want)
	}
}

func noItem(t *testing.T, d *disk.Disk, root, p string, want api.Errno) {
	t.Helper()
	if r, err := walk.Item(d, root, p); err != want || !alike(r, api.Record{}) || r.Blocks != nil {
		t.Errorf("Item(%q, %q) = %v, %d, not %d", root, p, r, err, want)
	}
}

func noWalk(t *testing.T, d *disk.Disk, root string, want api.Errno) {
	t.Helper()
	for _, l := range []*ignore.List{nil, {}, listOf(t, "*")} {
		if f, err := walk.Walk(d, root, l); err != want || !isZero(f) {
			t.Errorf("Walk(%q) = %v, %d, not %d", root, f, err, want)
		}
	}
	if l := all(walk.Each(d, root)); len(l) != 0 {
		t.Errorf("Each(%q) goes through %v", root, l)
	}
}

// one is a path with its node.
type one struct {
	path string
	node api.Node
}

func all(each iter.Seq2[string, api.Node]) []one {
	var l []one
	for p, n := range each {
		l = append(l, one{p, n})
	}
	return l
}

// told writes all that is to be seen of a disk.
func told(d *disk.Disk) string {
	var b strings.Builder
	for _, p := range d.Paths() {
		n, _ := d.Read(p)
		b.WriteString(strconv.Quote(p) + strconv.Itoa(n.Kind) + strconv.Quote(n.Data) + strconv.Quote(n.Target) + strconv.FormatInt(n.Time, 10) + "\n")
	}
	return b.String() + strconv.Itoa(d.Used()) + " " + strconv.Itoa(d.Pending()) + " " + strconv.FormatBool(d.Off())
}

// exampleDisk is that of the chapter's examples.
func exampleDisk(t *testing.T) *disk.Disk {
	t.Helper()
	d := with(t, []string{"f1", "f1/d", "f1/d/e"}, []string{"f1/d/~t~x"})
	ok(t, d.Write("f1/a", "abc", 5))
	ok(t, d.Write("f1/d/e/y", strings.Repeat("y", 5000), 7))
	ok(t, d.Link("f1/z", "a", 6))
	return d
}

// The chapter's examples.
func TestExamples(t *testing.T) {
	d := exampleDisk(t)
	abc := api.Record{Path: "a", Kind: 1, Size: 3, Time: 5, BlockSize: 16, Blocks: []api.Hash{sha.Sum([]byte("abc"))}}
	z := api.Record{Path: "z", Kind: 3, Target: "a", Time: 6}
	want := walk.Found{Items: []api.Record{abc, {Path: "d", Kind: 2}, z}, Temps: []string{"d/~t~x"}, Ignored: []string{"d/e"}}
	if f := walked(t, d, "f1", listOf(t, "e")); !isFound(f, want) {
		t.Errorf("Walk = %v, not %v", f, want)
	}
	want = walk.Found{Items: []api.Record{abc, {Path: "d", Kind: 2}, {Path: "d/e", Kind: 2}, z}, Temps: []string{"d/~t~x"}, Bad: []string{"d/e/y"}}
	if f := walked(t, d, "f1", nil); !isFound(f, want) {
		t.Errorf("Walk without patterns = %v, not %v", f, want)
	}
	noItem(t, d, "f1", "d/e/y", api.ErrLong)
	noItem(t, d, "f1", "b", api.ErrNone)
	noItem(t, d, "f1", "/", api.ErrPath)
	noWalk(t, d, "f2", api.ErrNone)
	noWalk(t, d, "f1/a", api.ErrDir)
	noWalk(t, d, "", api.ErrPath)
}

// P17.1, P17.3: what is no root, and of several errors the first one.
func TestNoRoot(t *testing.T) {
	d := exampleDisk(t)
	for _, root := range append([]string{"f1", "f2", "f1/a"}, noPaths...) {
		noWalk(t, nil, root, api.ErrNil)
	}
	for _, root := range noPaths {
		noWalk(t, d, root, api.ErrPath)
		noWalk(t, new(disk.Disk), root, api.ErrPath)
	}
	noWalk(t, &disk.Disk{}, "f1", api.ErrNil)
	for root, want := range map[string]api.Errno{
		"f": api.ErrNone, "f11": api.ErrNone, "f1/d/a": api.ErrNone, "f2/d": api.ErrNone, "f1/a/b": api.ErrNone, "f1/z/d": api.ErrNone,
		"f1/a": api.ErrDir, "f1/z": api.ErrDir, "f1/d/~t~x": api.ErrDir, "f1/d/e/y": api.ErrDir,
	} {
		noWalk(t, d, root, want)
		if _, err := d.List(root); err != want {
			t.Errorf("List(%q) = %d, not %d", root, err, want)
		}
	}
}

// P17.1: a list that is none, or has no patterns, ignores nothing.
func TestWithoutPatterns(t *testing.T) {
	d := exampleDisk(t)
	want := walked(t, d, "f1", nil)
	for i, l := range []*ignore.List{{}, listOf(t, ""), listOf(t, "// e"), listOf(t, "!e"), listOf(t, "!d", "e")} {
		if f := walked(t, d, "f1", l); !isFound(f, want) {
			t.Errorf("list %d: Walk = %v, not %v", i, f, want)
		}
	}
	d = with(t, []string{"f1"}, nil)
	for _, l := range []*ignore.List{nil, {}, listOf(t, "*")} {
		finds(t, d, "f1", l, nil, nil, nil, nil)
	}
	if l := all(walk.Each(d, "f1")); len(l) != 0 {
		t.Errorf("Each of an empty root = %v", l)
	}
}

// P17.1: what is in the root, and named from there, alone; the root's own name does not count.
func TestRoots(t *testing.T) {
	dirs := []string{"f1", "f1/f1", "f1/f1/d", "f1 ", "f1x", "f", "~t~r", "~t~r/d", "~t~r/d/f1"}
	files := []string{"f1/a", "f1/f1/b", "f1/f1/d/c", "f1 /a", "f1x/d", "f/1", "g", "~t~r/e", "~t~r/d/f1/~t~", "~t~r/d/f1/f"}
	d := with(t, dirs, files)
	finds(t, d, "f1", nil, []string{"a", "f1", "f1/b", "f1/d", "f1/d/c"}, nil, nil, nil)
	finds(t, d, "f1/f1", nil, []string{"b", "d", "d/c"}, nil, nil, nil)
	finds(t, d, "f1/f1/d", nil, []string{"c"}, nil, nil, nil)
	finds(t, d, "f1 ", nil, []string{"a"}, nil, nil, nil)
	finds(t, d, "f1x", nil, []string{"d"}, nil, nil, nil)
	finds(t, d, "f", nil, []string{"1"}, nil, nil, nil)
	finds(t, d, "~t~r", nil, []string{"d", "d/f1", "d/f1/f", "e"}, []string{"d/f1/~t~"}, nil, nil)
	finds(t, d, "~t~r/d/f1", nil, []string{"f"}, []string{"~t~"}, nil, nil)
	// Patterns are of paths from the root on, too.
	finds(t, d, "f1", listOf(t, "/f1"), []string{"a"}, nil, []string{"f1"}, nil)
	finds(t, d, "f1/f1", listOf(t, "/f1"), []string{"b", "d", "d/c"}, nil, nil, nil)
	finds(t, d, "f1/f1", listOf(t, "f1"), []string{"b", "d", "d/c"}, nil, nil, nil)
	finds(t, d, "f1", listOf(t, "/d"), []string{"a", "f1", "f1/b", "f1/d", "f1/d/c"}, nil, nil, nil)
	finds(t, d, "f1/f1", listOf(t, "/d"), []string{"b"}, nil, []string{"d"}, nil)
	finds(t, d, "~t~r", listOf(t, "~t~r", "d/f1"), []string{"d", "e"}, nil, []string{"d/f1"}, nil)
}

// P17.1, P17.3: all is in the order of paths.
func TestOrder(t *testing.T) {
	names := []string{"a", "a b", "a-c", "aa", "B", "\xff", "\u00e9", "0", "a.", "~t~b", "~t~", "~t~ b", "x!", "x b", "x", "l b", "l-a", "l"}
	d := with(t, []string{"f1"}, nil)
	for i, n := range names {
		p := "f1/" + n
		switch n[0] {
		case 'x': // is ignored
			ok(t, d.Write(p, "", 1))
		case 'l': // is bad
			ok(t, d.Write(p, strings.Repeat("l", 4097+i), 1))
		default:
			ok(t, d.Mkdir(p))
			ok(t, d.Write(p+"/z", "", 1))
			ok(t, d.Mkdir(p+"/a b"))
			ok(t, d.Mkdir(p+"/a"))
			ok(t, d.Link(p+"/a/k", "t", 1))
		}
	}
	var items []string
	for _, n := range []string{"0", "B", "a", "a b", "a-c", "a.", "aa", "\u00e9", "\xff"} {
		items = append(items, n, n+"/a", n+"/a/k", n+"/a b", n+"/z")
	}
	finds(t, d, "f1", listOf(t, "x*"), items, []string{"~t~", "~t~ b", "~t~b"}, []string{"x", "x b", "x!"}, []string{"l", "l b", "l-a"})
	var paths []string
	for p := range walk.Each(d, "f1") {
		paths = append(paths, p)
	}
	if !slices.IsSortedFunc(paths, path.Cmp) || len(paths) != 5*12+6 {
		t.Errorf("Each goes through %q", paths)
	}
}

// P17.1: temps, whatever stands there, with all that lies within.
func TestTemps(t *testing.T) {
	d := with(t, []string{"f1", "f1/~t~d", "f1/~t~d/k", "f1/~t~d/~t~", "f1/~t~d-b", "f1/d", "f1/t~t~", "f1/~t"}, []string{"f1/~t~d/k/m", "f1/~t~d/f", "f1/d/~t~", "f1/d/~t~f", "f1/d/~T~f", "f1/d/f~t~", "f1/t~t~/ ~t~"})
	ok(t, d.Link("f1/~t~l", "d", 1))
	ok(t, d.Write("f1/~t~long", strings.Repeat("x", 4097), 1))
	ok(t, d.Write("f1/~t~d/long", strings.Repeat("x", 4097), 1))
	temp, _ := path.Temp("d/some file")
	ok(t, d.Write("f1/"+temp, "", 1))
	temps := []string{"d/~t~", "d/~t~f", temp, "~t~d", "~t~d-b", "~t~l", "~t~long"}
	items := []string{"d", "d/f~t~", "d/~T~f", "t~t~", "t~t~/ ~t~", "~t"}
	finds(t, d, "f1", nil, items, temps, nil, nil)
	finds(t, d, "f1", listOf(t, "k", "f", "long", "~t~*"), items, temps, nil, nil) // ahead of what is ignored, or bad
	finds(t, d, "f1", listOf(t, "*"), nil, []string{"~t~d", "~t~d-b", "~t~l", "~t~long"}, []string{"d", "t~t~", "~t"}, nil)
}

// P17.1: what is ignored, whatever stands there, with all that lies within, though that is not ignored itself.
func TestIgnored(t *testing.T) {
	d := with(t, []string{"f1", "f1/d", "f1/d/e", "f1/d/keep", "f1/d-b", "f1/c", "f1/c/keep", "f1/c/keep/e"}, []string{"f1/d/e/f", "f1/d/~t~", "f1/d/keep/f", "f1/c/e", "f1/c/f", "f1/keep", "f1/c/keep/f"})
	ok(t, d.Link("f1/e", "d", 1))
	ok(t, d.Write("f1/d/long", strings.Repeat("x", 4097), 1))
	ok(t, d.Write("f1/long", strings.Repeat("x", 4097), 1))
	finds(t, d, "f1", nil, []string{"c", "c/e", "c/f", "c/keep", "c/keep/e", "c/keep/f", "d", "d/e", "d/e/f", "d/keep", "d/keep/f", "d-b", "e", "keep"}, []string{"d/~t~"}, nil, []string{"d/long", "long"})
	finds(t, d, "f1", listOf(t, "!keep", "d"), []string{"c", "c/e", "c/f", "c/keep", "c/keep/e", "c/keep/f", "d-b", "e", "keep"}, nil, []string{"d"}, []string{"long"})
	finds(t, d, "f1", listOf(t, "!d/keep", "(?d)(?i)D", "E"), []string{"c", "c/e", "c/f", "c/keep", "c/keep/e", "c/keep/f", "d-b", "e", "keep"}, nil, []string{"d"}, []string{"long"})
	finds(t, d, "f1", listOf(t, "!keep", "e", "long"), []string{"c", "c/f", "c/keep", "c/keep/e", "c/keep/f", "d", "d/keep", "d/keep/f", "d-b", "keep"}, []string{"d/~t~"}, []string{"c/e", "d/e", "d/long", "e", "long"}, nil) // ahead of what is bad
	finds(t, d, "f1", listOf(t, "d/*"), []string{"c", "c/e", "c/f", "c/keep", "c/keep/e", "c/keep/f", "d", "d-b", "e", "keep"}, []string{"d/~t~"}, []string{"d/e", "d/keep", "d/long"}, []string{"long"})
	finds(t, d, "f1", listOf(t, "!e/f", "c/keep/f", "keep/e", "c"), []string{"d", "d/e", "d/e/f", "d/keep", "d/keep/f", "d-b", "e", "keep"}, []string{"d/~t~"}, []string{"c"}, []string{"d/long", "long"})
	finds(t, d, "f1", listOf(t, "*"), nil, nil, []string{"c", "d", "d-b", "e", "keep", "long"}, nil)
}

// P17.1: files of more than 4096 bytes are bad, and nothing else is; conflicts are found.
func TestBad(t *testing.T) {
	d := with(t, []string{"f1", "f1/d", "f1/b"}, []string{"f1/a.sync-conflict-0000000077-03.txt"})
	ok(t, d.Write("f1/d/a", strings.Repeat("x", 4096), 1))
	ok(t, d.Write("f1/d/b", strings.Repeat("x", 4097), 1))
	ok(t, d.Write("f1/b/b", strings.Repeat("x", 9000), 1))
	ok(t, d.Write("f1/b b", "", 1))
	ok(t, d.Append("f1/b b", strings.Repeat("x", 4096)))
	ok(t, d.Link("f1/b/a", strings.Repeat("t", 160), 1))
	items := []string{"a.sync-conflict-0000000077-03.txt", "b", "b/a", "b b", "d", "d/a"}
	finds(t, d, "f1", nil, items, nil, nil, []string{"b/b", "d/b"})
	ok(t, d.Append("f1/b b", "y"))
	items = slices.Delete(items, 3, 4)
	finds(t, d, "f1", nil, items, nil, nil, []string{"b/b", "b b", "d/b"})
}

// nodes lays of each kind nodes at their edges, and answers their items.
func nodes(t *testing.T, d *disk.Disk, root string) []api.Record {
	t.Helper()
	var l []api.Record
	for _, n := range []int{0, 1, 15, 16, 17, 512, 513, 1024, 1025, 2048, 2049, 4095, 4096} {
		b := make([]byte, n)
		for i := range b {
			b[i] = byte(i * 7 >> 3)
		}
		for _, time := range []int64{0, 5, api.MaxTime} {
			p := "f" + strconv.Itoa(n) + " " + strconv.FormatInt(time, 10)
			ok(t, d.Write(root+"/"+p, string(b), time))
			l = append(l, fileItem(p, string(b), time))
		}
	}
	for i, target := range []string{"a", "..", "\x00\xff", "/", strings.Repeat("t", 160)} {
		for _, time := range []int64{0, 6, api.MaxTime} {
			p := "l" + strconv.Itoa(i) + " " + strconv.FormatInt(time, 10)
			ok(t, d.Link(root+"/"+p, target, time))
			l = append(l, linkItem(p, target, time))
		}
	}
	for _, p := range []string{"d", "d/d", "d/d/ "} {
		ok(t, d.Mkdir(root+"/"+p))
		l = append(l, dirItem(p))
	}
	slices.SortFunc(l, func(a, b api.Record) int { return path.Cmp(a.Path, b.Path) })
	return l
}

// P17.1, P17.2: what an item says of each node.
func TestItems(t *testing.T) {
	for _, root := range []string{"f1", "a/b"} {
		d := newDisk(t, 1<<17)
		ok(t, d.Mkdir("a"))
		if root != "a" {
			ok(t, d.Mkdir(root))
		}
		want := nodes(t, d, root)
		f := walked(t, d, root, nil)
		if !isFound(f, walk.Found{Items: want}) {
			t.Errorf("Walk(%q) = %v, not the items %v", root, f, want)
		}
		for _, r := range want {
			isItem(t, d, root, r.Path, r)
			n := block.Count(r.Size)
			if r.Kind != api.KFile {
				n = 0
			}
			if r.Kind == api.KFile && r.BlockSize != block.Size(r.Size) || len(r.Blocks) != n {
				t.Errorf("the test's item %v is none", r)
			}
		}
	}
}

// P17.2: whether it would be passed over is not asked; nor whether the root is a directory.
func TestItem(t *testing.T) {
	d := with(t, []string{"f1", "f1/~t~d", "f1/e", "f1/e/e"}, []string{"f1/~t~d/f"})
	ok(t, d.Write("f1/~t~", strings.Repeat("x", 4096), 3))
	ok(t, d.Write("f1/~t~d/~t~", "x", 4))
	ok(t, d.Write("f1/~t~long", strings.Repeat("x", 4097), 3))
	ok(t, d.Write("f1/e/long", strings.Repeat("x", 20000), 3))
	ok(t, d.Write("f", "x", 3))
	ok(t, d.Link("l", "f1", 3))
	isItem(t, d, "f1", "~t~", fileItem("~t~", strings.Repeat("x", 4096), 3))
	isItem(t, d, "f1", "~t~d", dirItem("~t~d"))
	isItem(t, d, "f1", "~t~d/f", fileItem("~t~d/f", "", 1))
	isItem(t, d, "f1", "~t~d/~t~", fileItem("~t~d/~t~", "x", 4))
	isItem(t, d, "f1/~t~d", "~t~", fileItem("~t~", "x", 4))
	isItem(t, d, "f1/e", "e", dirItem("e"))
	noItem(t, d, "f1", "~t~long", api.ErrLong)
	noItem(t, d, "f1", "e/long", api.ErrLong)
	noItem(t, d, "f1/e", "long", api.ErrLong)
	for _, at := range [][2]string{{"f2", "e"}, {"f", "x"}, {"l", "e"}, {"f1", "f1"}, {"f1", "e/e/e"}, {"f1/~t~", "x"}, {"f1/e/e", "e"}, {"f1/", "e"}} {
		want := api.ErrNone
		if at[0] == "f1/" {
			want = api.ErrPath
		}
		noItem(t, d, at[0], at[1], want)
	}
}

// P17.2: of several errors the first one.
func TestItemRefuses(t *testing.T) {
	d := exampleDisk(t)
	made := append([]string{"f1", "f2", "f1/a"}, noPaths...)
	for _, root := range made {
		for _, p := range made {
			want := api.ErrPath
			if path.May(root) && path.May(p) {
				want = api.ErrNone
			}
			noItem(t, d, root, p, want)
			noItem(t, nil, root, p, api.ErrNil)
			if want == api.ErrNone {
				want = api.ErrNil
			}
			noItem(t, new(disk.Disk), root, p, want)
		}
	}
	noItem(t, d, "f1", "", api.ErrPath) // the root itself is none
	noItem(t, d, "", "f1", api.ErrPath)
}

// P17.2: two paths that make none: too deep, too long, or in a parent that is too long.
func TestItemFar(t *testing.T) {
	n := func(most int) string { return strings.Repeat("n", most) }
	d := with(t, []string{"a", "a/b", "a/b/c", "a/b/c/d", "a/b/c/d/e", n(48), n(48) + "/" + n(48), n(48) + "/" + n(48) + "/" + n(13)}, nil)
	far := n(48) + "/" + n(48) + "/" + n(13)
	ok(t, d.Write("a/b/c/d/e/f", "x", 1))
	ok(t, d.Write(far+"/"+n(48), "x", 1))
	isItem(t, d, "a", "b/c/d/e/f", fileItem("b/c/d/e/f", "x", 1))
	isItem(t, d, "a/b/c", "d/e/f", fileItem("d/e/f", "x", 1))
	isItem(t, d, "a/b/c/d/e", "f", fileItem("f", "x", 1))
	noItem(t, d, "a", "b/c/d/e/f/g", api.ErrPath)
	noItem(t, d, "a/b/c", "d/e/f/g", api.ErrPath)
	noItem(t, d, "a/b/c/d/e/f", "g", api.ErrPath)
	noItem(t, d, "x", "b/c/d/e/f", api.ErrNone)
	noItem(t, d, "x", "b/c/d/e/f/g", api.ErrPath)
	isItem(t, d, far, n(48), fileItem(n(48), "x", 1))
	isItem(t, d, n(48), n(48)+"/"+n(13)+"/"+n(48), fileItem(n(48)+"/"+n(13)+"/"+n(48), "x", 1))
	noItem(t, d, n(48), n(48)+"/"+n(13)+"/"+n(47), api.ErrNone)
	noItem(t, d, n(48), n(48)+"/"+n(14)+"/n", api.ErrPath) // its parent has 112 bytes
	noItem(t, d, n(48), n(48)+"/"+n(14), api.ErrNone)
	noItem(t, d, far+"/n", "n", api.ErrPath)
	noItem(t, d, far, strings.Repeat("n", 1<<20), api.ErrPath)
	finds(t, d, "a", nil, []string{"b", "b/c", "b/c/d", "b/c/d/e", "b/c/d/e/f"}, nil, nil, nil)
	finds(t, d, far, nil, []string{n(48)}, nil, nil, nil)
	noWalk(t, d, "a/b/c/d/e/f", api.ErrDir)
	noWalk(t, d, "a/b/c/d/e/f/g", api.ErrPath)
}

// P17.3: each path with its node, also of what a walk passes over.
func TestEach(t *testing.T) {
	d := exampleDisk(t)
	want := []one{
		{"a", api.Node{Kind: 1, Data: "abc", Time: 5}},
		{"d", api.Node{Kind: 2}},
		{"d/e", api.Node{Kind: 2}},
		{"d/e/y", api.Node{Kind: 1, Data: strings.Repeat("y", 5000), Time: 7}},
		{"d/~t~x", api.Node{Kind: 1, Time: 1}},
		{"z", api.Node{Kind: 3, Target: "a", Time: 6}},
	}
	each := walk.Each(d, "f1")
	for range 2 {
		if l := all(each); !slices.Equal(l, want) {
			t.Errorf("Each goes through %v, not %v", l, want)
		}
	}
}

// P17.3: it ends as soon as it is told to.
func TestEachEnds(t *testing.T) {
	each := walk.Each(exampleDisk(t), "f1")
	for most := 1; most <= 6; most++ {
		n := 0
		each(func(string, api.Node) bool {
			n++
			return n < most
		})
		if n != most {
			t.Errorf("Each went on: %d, not %d", n, most)
		}
	}
	inner := 0
outer:
	for p := range each {
		for q := range each {
			inner++
			if q == p {
				continue outer
			}
			if q > p {
				t.Errorf("%q comes behind %q, not ahead", q, p)
			}
		}
	}
	if inner != 1+2+3+4+5+6 {
		t.Errorf("Each within Each: %d", inner)
	}
}

// P17.3: the disk is looked at when it begins: not ahead of that, and not behind it.
func TestEachBegins(t *testing.T) {
	d := with(t, []string{"f1", "f1/a"}, []string{"f1/b"})
	gone, each := walk.Each(d, "f2"), walk.Each(d, "f1")
	ok(t, d.Mkdir("f2"))
	ok(t, d.Write("f2/x", "x", 2))
	if l := all(gone); len(l) != 1 || l[0].path != "x" {
		t.Errorf("Each of a root that was made = %v", l)
	}
	ok(t, d.Write("f1/c", "c", 3))
	want := []one{{"a", api.Node{Kind: 2}}, {"b", api.Node{Kind: 1, Time: 1}}, {"c", api.Node{Kind: 1, Data: "c", Time: 3}}}
	var l []one
	for p, n := range each {
		if p == "a" {
			ok(t, d.Remove("f1/a"))
			ok(t, d.Write("f1/b", "other", 9))
			ok(t, d.Rename("f1/c", "f1/d"))
			ok(t, d.Write("f1/b b", "", 9))
		}
		l = append(l, one{p, n})
	}
	if !slices.Equal(l, want) {
		t.Errorf("Each goes through %v, not %v", l, want)
	}
	want = []one{{"b", api.Node{Kind: 1, Data: "other", Time: 9}}, {"b b", api.Node{Kind: 1, Time: 9}}, {"d", api.Node{Kind: 1, Data: "c", Time: 3}}}
	if l := all(each); !slices.Equal(l, want) {
		t.Errorf("Each goes through %v, not %v", l, want)
	}
	ok(t, d.Rename("f1", "f3"))
	if l := all(each); len(l) != 0 {
		t.Errorf("Each of a root that is gone = %v", l)
	}
	ok(t, d.Write("f1", "", 1))
	if l := all(each); len(l) != 0 {
		t.Errorf("Each of a file = %v", l)
	}
}

// P17.5: the disk stays as it is, and is told of alike, whether its power is gone or not.
func TestDiskStays(t *testing.T) {
	d := exampleDisk(t)
	ok(t, d.Sync())
	ok(t, d.Mkdir("f1/new"))
	ok(t, d.Write("f1/new/n", "new", 8))
	l := listOf(t, "e")
	before := told(d)
	look := func() (walk.Found, api.Record, []one) {
		f := walked(t, d, "f1", l)
		walk.Walk(d, "f2", l)
		r, _ := walk.Item(d, "f1", "new/n")
		walk.Item(d, "f1", "none")
		return f, r, all(walk.Each(d, "f1"))
	}
	f, r, each := look()
	if told(d) != before {
		t.Errorf("the disk is %s, not %s", told(d), before)
	}
	ok(t, d.Fuse(1))
	look()
	if d.Off() {
		t.Error("to look burnt the fuse")
	}
	ok(t, d.Fuse(0))
	off := told(d)
	if f2, r2, each2 := look(); !isFound(f, f2) || !alike(r, r2) || !slices.Equal(each, each2) {
		t.Errorf("without power: %v, %v, %v", f2, r2, each2)
	}
	if told(d) != off {
		t.Errorf("the disk is %s, not %s", told(d), off)
	}
	ok(t, d.Crash([]byte{1}))
	finds(t, d, "f1", l, []string{"a", "d", "new", "z"}, []string{"d/~t~x"}, []string{"d/e"}, nil)
}

// changedBlocks tells how many blocks of items are not what they are in the others, which have as many.
func changedBlocks(a, b []api.Record) int {
	n := 0
	for i, r := range a {
		for j, h := range r.Blocks {
			if h != b[i].Blocks[j] {
				n++
			}
		}
	}
	return n
}

// P17.5: what is answered shares nothing with what is answered behind it, nor one list of it with another one.
func TestApart(t *testing.T) {
	d := exampleDisk(t)
	ok(t, d.Write("f1/a2", "abc", 5))
	ok(t, d.Write("f1/~t~2", "", 5))
	ok(t, d.Write("f1/d/y", strings.Repeat("y", 4097), 5))
	ok(t, d.Mkdir("f1/e"))
	l := listOf(t, "e")
	want, f := walked(t, d, "f1", l), walked(t, d, "f1", l)
	for i := range f.Items {
		_ = append(f.Items[i].Blocks, api.Hash{9})
		for j := range f.Items[i].Blocks {
			f.Items[i].Blocks[j][0] ^= 1
			if n := changedBlocks(f.Items, want.Items); n != 1 {
				t.Errorf("a block was changed, and %d of them are", n)
			}
			f.Items[i].Blocks[j][0] ^= 1
		}
	}
	for _, list := range []*[]string{&f.Temps, &f.Ignored, &f.Bad} {
		was := slices.Clone(*list)
		for i := range *list {
			(*list)[i] = "changed"
		}
		_ = append(*list, "more")
		*list = was
		if !isFound(f, want) {
			t.Errorf("a list was changed, and another one with it: %v", f)
		}
	}
	for i := range f.Items {
		f.Items[i] = api.Record{}
	}
	if f := walked(t, d, "f1", l); !isFound(f, want) || len(f.Temps) != 2 || len(f.Ignored) != 2 || len(f.Bad) != 1 {
		t.Errorf("Walk = %v, not %v", f, want)
	}
	r, _ := walk.Item(d, "f1", "a")
	r.Blocks[0] = api.Hash{}
	isItem(t, d, "f1", "a", fileItem("a", "abc", 5))
}

// P17.1, P17.5: a disk that is full.
func TestFullDisk(t *testing.T) {
	d := newDisk(t, api.MaxRoom)
	ok(t, d.Mkdir("f1"))
	n := 1
	for i := 0; d.Used()+64 <= d.Room(); i++ {
		p := "f1/d" + strconv.Itoa(i/100)
		if i%100 == 0 {
			ok(t, d.Mkdir(p))
		} else {
			ok(t, d.Write(p+"/f"+strconv.Itoa(i), "", 1))
		}
		n++
	}
	f := walked(t, d, "f1", listOf(t, "d1?", "!f*9", "f*3"))
	if n != api.MaxRoom/64 || len(all(walk.Each(d, "f1"))) != n-1 || len(f.Ignored) < 1000 || len(f.Items) < 10000 {
		t.Errorf("%d nodes: %d items, %d ignored", n, len(f.Items), len(f.Ignored))
	}
	noItem(t, d, "f1", "d0/f3x", api.ErrNone)
	isItem(t, d, "f1", "d0/f3", fileItem("d0/f3", "", 1))
}

// anyTree answers a disk on which any calls were done.
func anyTree(t *testing.T, r *rand.Rand) *disk.Disk {
	t.Helper()
	d := newDisk(t, 1<<17)
	names := []string{"a", "a", "b", "b", "a b", "a-c", "keep", "e", "~t~", "~t~x", "x.tmp", "\xff", "a.sync-conflict-0000000077-03.txt"}
	sizes := []int{0, 1, 3, 17, 600, 4096, 4097, 5000}
	some := func() string {
		p := []string{"f1", "f1", "f1", "f1x", "a", "f1/a"}[r.Intn(6)]
		for range r.Intn(5) {
			p += "/" + names[r.Intn(len(names))]
		}
		return p
	}
	for range 60 + r.Intn(100) {
		switch r.Intn(8) {
		case 0, 1, 2, 3:
			d.Mkdir(some())
		case 4, 5:
			d.Write(some(), strings.Repeat(strconv.Itoa(r.Intn(10)), sizes[r.Intn(len(sizes))]), r.Int63n(api.MaxTime+1))
		case 6:
			d.Link(some(), "t", r.Int63n(api.MaxTime+1))
		case 7:
			if r.Intn(2) == 0 {
				d.Rename(some(), some())
			} else {
				d.Remove(some())
			}
		}
	}
	return d
}

func anyPatterns(t *testing.T, r *rand.Rand) *ignore.List {
	t.Helper()
	lines := []string{"e", "!keep", "*.tmp", "/a", "a b", "**/b", "(?d)b", "(?i)A", "!e/keep", "a/**", "*", "!a/a", "?", "/b/a", "\xff", "~t~"}
	var some []string
	for range r.Intn(4) {
		some = append(some, lines[r.Intn(len(lines))])
	}
	return listOf(t, some...)
}

// below answers all that is in a directory, name by name, as the disk lists it.
func below(t *testing.T, d *disk.Disk, dir, ahead string) []one {
	t.Helper()
	names, err := d.List(dir)
	ok(t, err)
	var l []one
	for _, name := range names {
		n, err := d.Read(dir + "/" + name)
		ok(t, err)
		l = append(l, one{ahead + name, n})
		if n.Kind == api.KDir {
			l = append(l, below(t, d, dir+"/"+name, ahead+name+"/")...)
		}
	}
	return l
}

// sort tells why a node is passed over, as if nothing around it were.
func sort(x one, l *ignore.List) string {
	ignored, _ := l.Match(x.path)
	switch {
	case strings.HasPrefix(x.path[strings.LastIndex(x.path, "/")+1:], "~t~"):
		return "temp"
	case ignored:
		return "ignored"
	case x.node.Kind == api.KFile && len(x.node.Data) > 4096:
		return "bad"
	}
	return ""
}

// byWords is a walk through all that is in a root, by the chapter's words.
func byWords(tree []one, l *ignore.List) walk.Found {
	slices.SortFunc(tree, func(a, b one) int {
		return slices.Compare(strings.Split(a.path, "/"), strings.Split(b.path, "/"))
	})
	var f walk.Found
	for _, x := range tree {
		if slices.ContainsFunc(tree, func(y one) bool { return strings.HasPrefix(x.path, y.path+"/") && sort(y, l) != "" }) {
			continue
		}
		switch n := x.node; sort(x, l) {
		case "temp":
			f.Temps = append(f.Temps, x.path)
		case "ignored":
			f.Ignored = append(f.Ignored, x.path)
		case "bad":
			f.Bad = append(f.Bad, x.path)
		default:
			r := api.Record{Path: x.path, Kind: n.Kind, Target: n.Target, Time: n.Time}
			if n.Kind == api.KFile {
				r = fileItem(x.path, n.Data, n.Time)
			}
			f.Items = append(f.Items, r)
		}
	}
	return f
}

// justOne holds the paths of Each against P17.4.
func justOne(t *testing.T, tree []one, f walk.Found) {
	t.Helper()
	items := pathsOf(f.Items)
	passed := slices.Concat(f.Temps, f.Ignored, f.Bad)
	for _, x := range tree {
		n := 0
		for _, p := range append(slices.Clone(items), passed...) {
			if p == x.path {
				n++
			}
		}
		for _, p := range passed {
			if path.Within(x.path, p) {
				n++
			}
		}
		if n != 1 {
			t.Errorf("%q is told %d times in %v", x.path, n, f)
		}
	}
	for i, r := range f.Items {
		parent, _ := path.Parent(r.Path)
		j := slices.Index(items, parent)
		if parent != "" && (j < 0 || j >= i || f.Items[j].Kind != api.KDir) {
			t.Errorf("the parent of %q is no directory ahead of it in %q", r.Path, items)
		}
	}
}

// less holds what is found with patterns against what is found without them, by P17.6.
func less(t *testing.T, with, without walk.Found) {
	t.Helper()
	for _, r := range with.Items {
		if !slices.ContainsFunc(without.Items, func(x api.Record) bool { return alike(r, x) }) {
			t.Errorf("%q is found with patterns alone", r.Path)
		}
	}
	for _, r := range without.Items {
		n := 0
		for _, x := range with.Items {
			if x.Path == r.Path {
				n++
			}
		}
		for _, p := range with.Ignored {
			if p == r.Path || path.Within(r.Path, p) {
				n++
			}
		}
		if n != 1 {
			t.Errorf("%q, found without patterns, is told %d times with them", r.Path, n)
		}
	}
}

// P17.1 to P17.6: any trees and patterns against the chapter's words.
func TestAny(t *testing.T) {
	r := rand.New(rand.NewSource(17))
	for i := range 1500 {
		d := anyTree(t, r)
		l := anyPatterns(t, r)
		before := told(d)
		for _, root := range []string{"f1", "f1x", "a", "f1/a", "f1/b", "f1/a/a b"} {
			if n, err := d.Read(root); err != api.OK || n.Kind != api.KDir {
				want := api.ErrDir
				if err != api.OK {
					want = api.ErrNone
				}
				noWalk(t, d, root, want)
				continue
			}
			tree := below(t, d, root, "")
			with, without := byWords(tree, l), byWords(tree, nil)
			f, g := walked(t, d, root, l), walked(t, d, root, nil)
			if !isFound(f, with) || !isFound(g, without) {
				t.Fatalf("tree %d: Walk(%q) with %q = %v, not %v; without %v, not %v", i, root, l.Lines(), f, with, g, without)
			}
			if each := all(walk.Each(d, root)); !slices.Equal(each, tree) {
				t.Fatalf("tree %d: Each(%q) goes through %v, not %v", i, root, each, tree)
			}
			justOne(t, tree, f)
			less(t, f, g)
			for _, x := range tree {
				switch {
				case len(x.node.Data) > 4096:
					noItem(t, d, root, x.path, api.ErrLong)
				default:
					want := byWords([]one{{"x", x.node}}, nil).Items[0]
					want.Path = x.path
					isItem(t, d, root, x.path, want)
				}
			}
		}
		if told(d) != before {
			t.Fatalf("tree %d: the disk is %s, not %s", i, told(d), before)
		}
	}
}

// R1: any bytes.
func TestAnyBytes(t *testing.T) {
	r := rand.New(rand.NewSource(18))
	d := exampleDisk(t)
	for range 20000 {
		b := make([]byte, r.Intn(12))
		for i := range b {
			b[i] = "f1/adezy.~t\x00\xff"[r.Intn(13)]
		}
		cut := r.Intn(len(b) + 1)
		root, p := string(b[:cut]), string(b[cut:])
		_, err := d.Read(root + "/" + p)
		if !path.May(root) || !path.May(p) || !path.May(root+"/"+p) {
			err = api.ErrPath
		}
		if got, e := walk.Item(d, root, p); e != err || err != api.OK && !alike(got, api.Record{}) {
			t.Fatalf("Item(%q, %q) = %v, %d, not %d", root, p, got, e, err)
		}
		_, err = d.List(root)
		if !path.May(root) {
			err = api.ErrPath
		}
		if f, e := walk.Walk(d, root, nil); e != err || err != api.OK && (!isZero(f) || len(all(walk.Each(d, root))) > 0) {
			t.Fatalf("Walk(%q) = %v, %d, not %d", root, f, e, err)
		}
	}
}
