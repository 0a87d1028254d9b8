package archive_test

import (
	"cmp"
	"math"
	"math/rand"
	"slices"
	"strconv"
	"strings"
	"testing"

	"caravan/api"
	"caravan/archive"
	"caravan/disk"
	"caravan/path"
)

const (
	room = 1 << 16
	top  = math.MaxUint32 // the last time
)

var (
	trash     = archive.Policy{Kind: archive.Trash}
	simple    = archive.Policy{Kind: archive.Simple, Keep: 1}
	staggered = archive.Policy{Kind: archive.Staggered}
)

// noPolicies are one for each thing that can be wrong.
var noPolicies = []archive.Policy{{}, {Kind: 4}, {Kind: 1, Keep: 1}, {Kind: 2}, {Kind: 2, Keep: 101}, {Kind: 3, Keep: -1}, {Kind: 3, MaxAge: -1}, {Kind: 1, MaxAge: top + 1}}

// noPaths are texts that are no path.
var noPaths = []string{"", "/", "v1/", "/v1", "v1//d", ".", "..", "v1/..", "v1/./d", "a\nb", "\x7f", "a/b/c/d/e/f/g", strings.Repeat("n", 49)}

// noTimes are none, some of which would be one if they were cut to fewer bits.
var noTimes = []int64{-1, -7, top + 1, top + 8, 1 << 40, math.MaxInt64, math.MinInt64, math.MinInt64 + 7}

func newDisk(t *testing.T, room int) *disk.Disk {
	t.Helper()
	d, err := disk.New(room)
	if err != api.OK {
		t.Fatalf("disk.New(%d) = %d", room, err)
	}
	return d
}

func ok(t *testing.T, err api.Errno) {
	t.Helper()
	if err != api.OK {
		t.Fatalf("%d, not OK", err)
	}
}

// with answers a disk with these directories, one behind the other.
func with(t *testing.T, dirs ...string) *disk.Disk {
	t.Helper()
	d := newDisk(t, room)
	for _, p := range dirs {
		ok(t, d.Mkdir(p))
	}
	return d
}

func file(data string, time int64) api.Node {
	return api.Node{Kind: api.KFile, Data: data, Time: time}
}

// bytesOf are those of an archive, by the chapter's words.
func bytesOf(p, data string) string {
	return string([]byte{byte(len(p) >> 8), byte(len(p))}) + p + data
}

// nameOf is that of an archive, by the chapter's words.
func nameOf(time int64, number int) string {
	return digits(time, 10) + "-" + digits(int64(number), 4)
}

func digits(n int64, width int) string {
	s := strconv.FormatInt(n, 10)
	for len(s) < width {
		s = "0" + s
	}
	return s
}

// told writes all that is to be seen of a disk.
func told(d *disk.Disk) string {
	var b strings.Builder
	for _, p := range d.Paths() {
		n, _ := d.Read(p)
		b.WriteString(strconv.Quote(p) + strconv.Itoa(n.Kind) + strconv.Quote(n.Data) + strconv.Quote(n.Target) + strconv.FormatInt(n.Time, 10) + "\n")
	}
	return b.String() + strconv.Itoa(d.Used()) + " " + strconv.Itoa(d.Pending()) + " " + strconv.FormatBool(d.Off())
}

// fuseOf tells how many effects more the power is there for, up to most.
func fuseOf(d *disk.Disk, most int) int {
	d, n := d.Copy(), 0
	for n < most && d.Sync() == api.OK {
		n++
	}
	return n
}

// added puts one there, and looks that it got that name.
func added(t *testing.T, d *disk.Disk, root, p string, n api.Node, now int64, want string) {
	t.Helper()
	if name, err := archive.Add(d, root, p, n, now); name != want || err != api.OK {
		t.Fatalf("Add(%q, %q, %d) = %q, %d, not %q", root, p, now, name, err, want)
	}
}

// notAdded looks that the disk is as it was.
func notAdded(t *testing.T, d *disk.Disk, root, p string, n api.Node, now int64, want api.Errno) {
	t.Helper()
	before, fuse := told(d), fuseOf(d, 9)
	if name, err := archive.Add(d, root, p, n, now); name != "" || err != want {
		t.Errorf("Add(%q, %q, %d) = %q, %d, not %d", root, p, now, name, err, want)
	}
	if told(d) != before || fuseOf(d, 9) != fuse {
		t.Errorf("Add(%q, %q, %d), which is %d, changes the disk from\n%s %d\nto\n%s %d", root, p, now, want, before, fuse, told(d), fuseOf(d, 9))
	}
}

func lists(t *testing.T, d *disk.Disk, root string, want ...archive.Entry) {
	t.Helper()
	before := told(d)
	if l, err := archive.List(d, root); err != api.OK || !slices.Equal(l, want) {
		t.Errorf("List(%q) = %v, %d, not %v", root, l, err, want)
	}
	if told(d) != before {
		t.Errorf("List(%q) changes the disk", root)
	}
}

func noList(t *testing.T, d *disk.Disk, root string, want api.Errno) {
	t.Helper()
	if l, err := archive.List(d, root); l != nil || err != want {
		t.Errorf("List(%q) = %v, %d, not %d", root, l, err, want)
	}
}

func reads(t *testing.T, d *disk.Disk, root, name, p string, n api.Node) {
	t.Helper()
	before := told(d)
	if q, m, err := archive.Read(d, root, name); q != p || m != n || err != api.OK {
		t.Errorf("Read(%q, %q) = %q, %v, %d, not %q, %v", root, name, q, m, err, p, n)
	}
	if told(d) != before {
		t.Errorf("Read(%q, %q) changes the disk", root, name)
	}
}

func noRead(t *testing.T, d *disk.Disk, root, name string, want api.Errno) {
	t.Helper()
	if p, n, err := archive.Read(d, root, name); p != "" || n != (api.Node{}) || err != want {
		t.Errorf("Read(%q, %q) = %q, %v, %d, not %d", root, name, p, n, err, want)
	}
}

func cleans(t *testing.T, d *disk.Disk, root string, p archive.Policy, now int64, want int, wantErr api.Errno) {
	t.Helper()
	if n, err := archive.Clean(d, root, p, now); n != want || err != wantErr {
		t.Errorf("Clean(%q, %v, %d) = %d, %d, not %d, %d", root, p, now, n, err, want, wantErr)
	}
}

func goes(t *testing.T, p archive.Policy, l []archive.Entry, now int64, want ...string) {
	t.Helper()
	if got := archive.Goes(p, l, now); !slices.Equal(got, want) {
		t.Errorf("Goes(%v, %v, %d) = %q, not %q", p, l, now, got, want)
	}
}

// of are entries of a path at these times, in order, of which those of one time have numbers.
func of(p string, times ...int64) []archive.Entry {
	var l []archive.Entry
	for i, time := range times {
		l = append(l, archive.Entry{Name: nameOf(time, i), Path: p, Time: time, Size: 1})
	}
	return l
}

// aged are entries of a at the time top, which have these ages, in order of their names, whatever these ages are.
func aged(ages ...int64) []archive.Entry {
	var l []archive.Entry
	for i, age := range ages {
		l = append(l, archive.Entry{Name: nameOf(int64(i), 0), Path: "a", Time: top - age})
	}
	return l
}

// left are those of l whose names are none of these.
func left(l []archive.Entry, names []string) []archive.Entry {
	return slices.DeleteFunc(slices.Clone(l), func(e archive.Entry) bool { return slices.Contains(names, e.Name) })
}

func maxAge(p archive.Policy, age int64) archive.Policy {
	p.MaxAge = age
	return p
}

func keep(n int) archive.Policy { return archive.Policy{Kind: archive.Simple, Keep: n} }

// The chapter's examples.
func TestExamples(t *testing.T) {
	d := newDisk(t, room)
	xy := file("xy", 3)
	first, second := "0000000007-0000", "0000000007-0001"
	added(t, d, "v1", "a/b", xy, 7, first)
	added(t, d, "v1", "a/b", xy, 7, second)
	these := []archive.Entry{{Name: first, Path: "a/b", Time: 7, Size: 2}, {Name: second, Path: "a/b", Time: 7, Size: 2}}
	lists(t, d, "v1", these...)
	reads(t, d, "v1", second, "a/b", xy)
	if n, err := d.Read("v1/" + second); err != api.OK || n != file("\x00\x03a/bxy", 3) {
		t.Errorf("d.Read = %v, %d", n, err)
	}
	goes(t, simple, these, 9, first)
	goes(t, maxAge(trash, 1), these, 9, first)
	goes(t, maxAge(trash, 2), these, 9)
	goes(t, staggered, these, 9) // the first one is its bucket's, the second one the newest
	goes(t, staggered, of("a", 0, 5, 95, 150, 199), 200, of("a", 0, 5, 95)[2].Name)
	notAdded(t, d, "v1", "/", xy, 7, api.ErrPath)
	notAdded(t, d, "v1", "a", api.Node{Kind: api.KDir}, 7, api.ErrKind)
	notAdded(t, d, "v1", "a", xy, -1, api.ErrArg)
}

// P19.1: what is a policy, and the constants of the kinds.
func TestCheck(t *testing.T) {
	if archive.Trash != 1 || archive.Simple != 2 || archive.Staggered != 3 {
		t.Errorf("the kinds are %d, %d, %d", archive.Trash, archive.Simple, archive.Staggered)
	}
	for _, kind := range []int{math.MinInt, -3, -1, 0, 1, 2, 3, 4, 5, 257, 1<<32 + 1, math.MaxInt} {
		for _, n := range []int{math.MinInt, -100, -1, 0, 1, 2, 50, 99, 100, 101, 256, 1<<32 + 1, math.MaxInt} {
			for _, age := range []int64{math.MinInt64, -top, -1, 0, 1, 99, top - 1, top, top + 1, 1<<32 + 1, math.MaxInt64} {
				want := api.ErrArg
				if (n == 0 && (kind == 1 || kind == 3) || kind == 2 && 1 <= n && n <= 100) && 0 <= age && age <= top {
					want = api.OK
				}
				if got := archive.Check(archive.Policy{Kind: kind, Keep: n, MaxAge: age}); got != want {
					t.Errorf("Check(%d, %d, %d) = %d, not %d", kind, n, age, got, want)
				}
			}
		}
	}
	for _, p := range noPolicies {
		if archive.Check(p) != api.ErrArg {
			t.Errorf("Check(%v) = %d", p, archive.Check(p))
		}
	}
}

// P19.2: what can't be added, and of several errors the first one.
func TestAddRefuses(t *testing.T) {
	d := with(t, "v1")
	ok(t, d.Fuse(9))
	none := []api.Node{{}, {Kind: api.KDir}, {Kind: api.KLink, Target: "a", Time: 3}, {Kind: 4, Data: "xy"}, {Kind: -1, Data: "xy"}, {Kind: 257}}
	for _, root := range append([]string{"v1", "v2"}, noPaths...) {
		for _, p := range append([]string{"a"}, noPaths...) {
			for _, now := range append([]int64{7}, noTimes...) {
				for _, n := range append(none, file("xy", -1), file("xy", 3)) {
					if name, err := archive.Add(nil, root, p, n, now); name != "" || err != api.ErrNil {
						t.Fatalf("Add(nil, %q, %q, %v, %d) = %q, %d", root, p, n, now, name, err)
					}
					if !path.May(root) || !path.May(p) {
						notAdded(t, d, root, p, n, now, api.ErrPath)
					}
				}
			}
		}
		if !path.May(root) {
			continue
		}
		for _, now := range append([]int64{7}, noTimes...) {
			for _, n := range none {
				notAdded(t, d, root, "a", n, now, api.ErrKind)
			}
		}
		for _, now := range noTimes {
			notAdded(t, d, root, "a", file("xy", 3), now, api.ErrArg)
			notAdded(t, d, root, "a", file("xy", -1), now, api.ErrArg)
		}
	}
}

// P19.2: a disk that is not nil, but that disk did not make.
func TestNoDisk(t *testing.T) {
	d := &disk.Disk{}
	for _, p := range noPaths {
		for _, x := range [][2]string{{p, "a"}, {"v1", p}} {
			if name, err := archive.Add(d, x[0], x[1], file("", 3), 7); name != "" || err != api.ErrPath {
				t.Errorf("Add(%q, %q) = %q, %d", x[0], x[1], name, err)
			}
		}
		noList(t, d, p, api.ErrPath)
		noRead(t, d, p, nameOf(7, 0), api.ErrPath)
		cleans(t, d, p, trash, 7, 0, api.ErrPath)
	}
	for _, x := range []struct {
		n    api.Node
		now  int64
		want api.Errno
	}{{file("", 3), 7, api.ErrNil}, {api.Node{Kind: api.KDir}, 7, api.ErrKind}, {file("", 3), -1, api.ErrArg}} {
		if name, err := archive.Add(d, "v1", "a", x.n, x.now); name != "" || err != x.want {
			t.Errorf("Add(%v, %d) = %q, %d, not %d", x.n, x.now, name, err, x.want)
		}
	}
	noList(t, d, "v1", api.ErrNil)
	noRead(t, d, "v1", nameOf(7, 0), api.ErrNil)
	cleans(t, d, "v1", trash, 7, 0, api.ErrNil)
}

// P19.2: the name, the bytes and the time of what is put there, and nothing else.
func TestAdd(t *testing.T) {
	d := with(t, "f1")
	ok(t, d.Write("f1/a", "other", 5))
	long := strings.Repeat(strings.Repeat("p", 36)+"/", 3) + strings.Repeat("q", 48) // a path of 159 bytes
	for i, x := range []struct {
		p    string
		data string
		time int64
		now  int64
		name string
	}{
		{"a", "", 0, 0, "0000000000-0000"},
		{"a", "xy", 3, 1, "0000000001-0000"},
		{"a/b", "\x00\x01x", top, 99, "0000000099-0000"},
		{"a b/\xff", strings.Repeat("y", 9000), 7, 1234567890, "1234567890-0000"},
		{long, "\x00", 8, top - 1, "4294967294-0000"},
		{"a", "z", top - 1, top, "4294967295-0000"},
	} {
		used, pending := d.Used(), d.Pending()
		added(t, d, "v1", x.p, file(x.data, x.time), x.now, x.name)
		if n, err := d.Read("v1/" + x.name); err != api.OK || n != file(bytesOf(x.p, x.data), x.time) {
			t.Errorf("%s is %v, %d", x.name, n, err)
		}
		more, effects := 64+2+len(x.p)+len(x.data), 1
		if i == 0 { // and the root
			more, effects = more+64, 2
		}
		if d.Used() != used+more || d.Pending() != pending+effects {
			t.Errorf("%s uses %d bytes and %d effects, not %d and %d", x.name, d.Used()-used, d.Pending()-pending, more, effects)
		}
		reads(t, d, "v1", x.name, x.p, file(x.data, x.time))
	}
	if n, err := d.Read("f1/a"); err != api.OK || n != file("other", 5) {
		t.Errorf("f1/a = %v, %d", n, err)
	}
	ok(t, d.Crash(nil)) // nothing was made to last
	if l := d.Paths(); len(l) != 0 {
		t.Errorf("%q last", l)
	}
}

// P19.2: of a file no field counts that is none of a file's.
func TestAddTarget(t *testing.T) {
	d := newDisk(t, room)
	added(t, d, "v1", "a", api.Node{Kind: api.KFile, Data: "xy", Target: "b", Time: 3}, 7, "0000000007-0000")
	reads(t, d, "v1", "0000000007-0000", "a", file("xy", 3))
}

// P19.2: the least number of the time of which the root has nothing, whatever it is.
func TestNumbers(t *testing.T) {
	d := with(t, "v1", "v2", "v1/0000000007-0001", "v1/0000000008-0000", "v1/x")
	ok(t, d.Write("v1/0000000007-0002", "no archive", 1))
	ok(t, d.Link("v1/0000000007-0004", "x", 1))
	ok(t, d.Write("v1/x/0000000007-0005", "", 1))
	ok(t, d.Write("v1/0000000007-005", "", 1))
	ok(t, d.Write("v1/0000000007-00005", "", 1))
	ok(t, d.Write("v2/0000000007-0000", "", 1))
	ok(t, d.Write("0000000007-0005", "", 1))
	for _, number := range []int{0, 3, 5, 6} {
		added(t, d, "v1", "a", file("", 3), 7, nameOf(7, number))
	}
	added(t, d, "v1", "a", file("", 3), 8, nameOf(8, 1))
	added(t, d, "v1", "a", file("", 3), 6, nameOf(6, 0))
	added(t, d, "v2", "a", file("", 3), 7, nameOf(7, 1))
	added(t, d, "v1/x", "a", file("", 3), 7, nameOf(7, 0))
	ok(t, d.Remove("v1/"+nameOf(7, 3)))
	ok(t, d.Remove("v1/"+nameOf(7, 5)))
	for _, number := range []int{3, 5, 7} {
		added(t, d, "v1", "b", file("", 3), 7, nameOf(7, number))
	}
}

// P19.2: the numbers go up to 9999.
func TestNoNumber(t *testing.T) {
	d := newDisk(t, api.MaxRoom)
	ok(t, d.Mkdir("v1"))
	for i := range 9999 {
		ok(t, d.Write("v1/"+nameOf(7, i), "", 1))
	}
	added(t, d, "v1", "a", file("", 3), 7, "0000000007-9999")
	notAdded(t, d, "v1", "a", file("", 3), 7, api.ErrFull)
	notAdded(t, d, "v1", "a", file("", -1), 7, api.ErrFull)
	added(t, d, "v1", "a", file("", 3), 8, "0000000008-0000")
	ok(t, d.Remove("v1/0000000007-4567"))
	notAdded(t, d, "v1", "a", file("", -1), 7, api.ErrArg)
	added(t, d, "v1", "a", file("", 3), 7, "0000000007-4567")
	ok(t, d.Fuse(0))
	notAdded(t, d, "v1", "a", file("", 3), 7, api.ErrFull)
	notAdded(t, d, "v1", "a", file("", 3), 8, api.ErrClosed)
}

// P19.2: what the disk answers of the root, or of what is to be written; then nothing has changed.
func TestAddAsDisk(t *testing.T) {
	d := with(t, "d", "d/2", "d/2/3", "d/2/3/4", "d/2/3/4/5", "d/2/3/4/5/6")
	ok(t, d.Write("f", "", 1))
	ok(t, d.Link("l", "d", 1))
	long := strings.Repeat(strings.Repeat("r", 37)+"/", 2) // what lies in its last part would have a parent of more than 111 bytes
	ok(t, d.Mkdir(long[:37]))
	ok(t, d.Mkdir(long[:75]))
	ok(t, d.Fuse(5))
	for _, x := range []struct {
		root string
		want api.Errno
	}{
		{"e/v1", api.ErrNone}, {"d/2/e/v1", api.ErrNone}, {"f/v1", api.ErrDir}, {"l/v1", api.ErrDir}, // Mkdir
		{"f", api.ErrDir}, {"l", api.ErrDir}, {"d/2/3/4/5/6", api.ErrPath}, // Write, where something is at the root
		{"d/2/3/4/5/v", api.ErrPath}, {long + strings.Repeat("s", 36), api.ErrPath}, // where nothing is
	} {
		notAdded(t, d, x.root, "a", file("xy", 3), 7, x.want)
	}
	for _, time := range noTimes {
		notAdded(t, d, "d", "a", file("xy", time), 7, api.ErrArg)
		notAdded(t, d, "v1", "a", file("xy", time), 7, api.ErrArg)
		notAdded(t, d, "d/2/3/4/5/v", "a", file("xy", time), 7, api.ErrPath)
		notAdded(t, d, "e/v1", "a", file("xy", time), 7, api.ErrNone)
		notAdded(t, d, "f", "a", file("xy", time), 7, api.ErrArg)
	}
	added(t, d, "d/2/3/4/5", "a", file("xy", 3), 7, nameOf(7, 0))
	added(t, d, long+strings.Repeat("s", 35), "a", file("xy", 3), 7, nameOf(7, 0))
}

// P19.2: room for the root, for it and the archive, or for the archive alone.
func TestAddFull(t *testing.T) {
	for _, there := range []bool{false, true} {
		for spare := range 140 {
			d := newDisk(t, 1024)
			if there {
				ok(t, d.Mkdir("v1"))
			}
			ok(t, d.Write("fill", strings.Repeat("x", 1024-64-d.Used()-spare), 1))
			need := 64 + 2 + 3 + 2
			if !there {
				need += 64
			}
			if spare < need {
				notAdded(t, d, "v1", "a/b", file("xy", 3), 7, api.ErrFull)
				continue
			}
			added(t, d, "v1", "a/b", file("xy", 3), 7, nameOf(7, 0))
		}
	}
}

// P19.2: the power may go ahead of all, behind the root, or behind all.
func TestAddPower(t *testing.T) {
	xy := file("xy", 3)
	for _, time := range []int64{3, -1} { // though what can't be written is told where there is power alone
		d := newDisk(t, room)
		ok(t, d.Fuse(0))
		notAdded(t, d, "v1", "a", file("xy", time), 7, api.ErrClosed)
		d = with(t, "v1")
		ok(t, d.Fuse(0))
		notAdded(t, d, "v1", "a", file("xy", time), 7, api.ErrClosed)
		d = newDisk(t, room)
		ok(t, d.Fuse(1))
		if name, err := archive.Add(d, "v1", "a", file("xy", time), 7); name != "" || err != api.ErrClosed || !d.Off() {
			t.Errorf("Add = %q, %d; off: %t", name, err, d.Off())
		}
		if l := d.Paths(); !slices.Equal(l, []string{"v1"}) {
			t.Errorf("there are %q", l)
		}
		ok(t, d.Crash([]byte{1}))
		added(t, d, "v1", "a", xy, 7, nameOf(7, 0))
	}
	d := newDisk(t, room)
	ok(t, d.Fuse(2))
	added(t, d, "v1", "a", xy, 7, nameOf(7, 0))
	if !d.Off() || d.Pending() != 2 {
		t.Errorf("off: %t, pending: %d", d.Off(), d.Pending())
	}
	ok(t, d.Crash([]byte{1, 5})) // the archive's first bytes alone: 00 01 a
	reads(t, d, "v1", nameOf(7, 0), "a", file("", 3))
	d = with(t, "v1")
	ok(t, d.Fuse(1))
	added(t, d, "v1", "a", xy, 7, nameOf(7, 0))
	ok(t, d.Crash([]byte{1, 4})) // 00 01
	noRead(t, d, "v1", nameOf(7, 0), api.ErrForm)
	lists(t, d, "v1")
}

// noNames are names that no archive has, though some are like one's.
var noNames = []string{"a", "-", "0000000007", "0000000007-", "-0000", "0000000007-000", "0000000007-00000", "000000007-0000", "00000000007-0000", "0000000007_0000", "0000000007-0000 ", " 000000007-0000", "000000000a-0000", "0000000007-000a", "+000000007-0000", "0000000007-+000", "-000000007-0000", "0000000007--000", "0_00000007-0000", "0000000007-0_00", "00000000070-000", "000000007-00000", "00000000070000-", "0x00000007-0000", "0000000007-0x00", "000000000", "0000000007.0000", "0000000007-0000-", "000000000\xb2-0000", "000000000:-0000", "0000000007-000:", "000000000!-0000", "00000000\u0667-0000", "00000000071-0000", "0000000007-0000.1", "000000000000000", "~t~000000007-0000"}

// noBytes are bytes that no archive has.
var noBytes = []string{"", "\x00", "\x01", "\x00\x00", "\x00\x00a", "\x00\x01", "\x00\x02a", "\x00\x03a/", "\x00\x02a/b", "\x00\x01/", "\x00\x01.", "\x00\x02..", "\x00\x02/a", "\x00\x04a//b", "\x00\x01\n", "\x01\x00a", "\xff\xffa", "a", "ab", "abc", "\x00\x0da/b/c/d/e/f/g", "\x00\x31" + strings.Repeat("n", 49), "\x00\xa1" + strings.Repeat("n/", 80) + "n", "\x01\x01" + strings.Repeat("a", 300)}

// P19.3: what is no archive is none of List, and ErrForm to Read.
func TestNoArchive(t *testing.T) {
	d := with(t, "v1", "v1/0000000001-0000", "v1/d")
	ok(t, d.Write("v1/0000000001-0000/0000000001-0000", bytesOf("a", "xy"), 3))
	ok(t, d.Write("v1/d/0000000001-0000", bytesOf("a", "xy"), 3))
	ok(t, d.Link("v1/0000000002-0000", bytesOf("a", "xy"), 3))
	ok(t, d.Link("v1/0000000003-0000", "0000000004-0000", 3))
	none := []string{"0000000001-0000", "d", "0000000002-0000", "0000000003-0000"}
	for _, name := range noNames {
		ok(t, d.Write("v1/"+name, bytesOf("a", "xy"), 3))
		none = append(none, name)
	}
	for i, b := range noBytes {
		ok(t, d.Write("v1/"+nameOf(5, i), b, 3))
		none = append(none, nameOf(5, i))
	}
	lists(t, d, "v1")
	for _, name := range none {
		noRead(t, d, "v1", name, api.ErrForm)
	}
	added(t, d, "v1", "a", file("xy", 3), 7, nameOf(7, 0))
	lists(t, d, "v1", archive.Entry{Name: nameOf(7, 0), Path: "a", Time: 7, Size: 2})
	one := archive.Entry{Name: "0000000001-0000", Path: "a", Time: 1, Size: 2}
	lists(t, d, "v1/0000000001-0000", one)
	lists(t, d, "v1/d", one)
	noRead(t, d, "v1", "d/0000000001-0000", api.ErrForm) // is in another root
	noRead(t, d, "v1", "0000000001-0000/0000000001-0000", api.ErrForm)
}

// P19.3: each byte at each place of a name is a digit, or -.
func TestNameBytes(t *testing.T) {
	d := with(t, "v1")
	for i := range len("0000000007-0000") {
		for c := range 256 {
			b := []byte("1234567890-1234")
			b[i] = byte(c)
			name := string(b)
			if !path.Name(name) {
				continue
			}
			ok(t, d.Write("v1/"+name, bytesOf("a", "xy"), 3))
			if i == 10 && c == '-' || i != 10 && '0' <= c && c <= '9' {
				time, _ := strconv.ParseInt(name[:10], 10, 64)
				lists(t, d, "v1", archive.Entry{Name: name, Path: "a", Time: time, Size: 2})
				reads(t, d, "v1", name, "a", file("xy", 3))
			} else {
				lists(t, d, "v1")
				noRead(t, d, "v1", name, api.ErrForm)
			}
			ok(t, d.Remove("v1/"+name))
		}
	}
}

// P19.3: all entries, in order, of archives that somebody else wrote, too.
func TestList(t *testing.T) {
	d := with(t, "v1", "v1/d", "v2")
	lists(t, d, "v1")
	long := "a" + strings.Repeat(strings.Repeat("b", 36)+"/", 3) + strings.Repeat("c", 48)
	var want []archive.Entry
	for _, x := range []struct {
		name string
		p    string
		data string
		time int64
	}{
		{"0000000000-0000", "a", "", 0}, {"0000000000-9999", "a/b", "\x00\x01a", 1}, {"0000000001-0000", "a", "x", 9}, {"0000000001-0001", "b", "xy", 8},
		{"0000000010-0007", "~t~a", "xyz", top}, {"4294967295-0000", long, strings.Repeat("x", 5000), 5}, {"4294967296-0000", "a", "q", 5}, {"9999999999-9999", "\xff", "q", 5},
	} {
		want = append(want, archive.Entry{Name: x.name, Path: x.p, Size: len(x.data)})
		want[len(want)-1].Time, _ = strconv.ParseInt(x.name[:10], 10, 64)
		defer func() { reads(t, d, "v1", x.name, x.p, file(x.data, x.time)) }()
		ok(t, d.Write("v1/"+x.name, bytesOf(x.p, x.data), x.time))
		lists(t, d, "v1", want...)
	}
	if len(long) != 160 {
		t.Errorf("the longest path has %d bytes", len(long))
	}
	ok(t, d.Write("v1/d/0000000000-0001", bytesOf("c", ""), 1))
	ok(t, d.Write("v2/0000000000-0001", bytesOf("d", ""), 1))
	ok(t, d.Write("0000000000-0001", bytesOf("e", ""), 1))
	lists(t, d, "v1", want...)
	lists(t, d, "v1/d", archive.Entry{Name: "0000000000-0001", Path: "c"})
	lists(t, d, "v2", archive.Entry{Name: "0000000000-0001", Path: "d"})
	ok(t, d.Fuse(0)) // a disk without power tells the same
	lists(t, d, "v1", want...)
	cleans(t, d, "v2", trash, 7, 0, api.OK)
}

// P19.3: what is no root, and of several errors the first one.
func TestNoRoot(t *testing.T) {
	d := with(t, "v1", "v1/d")
	ok(t, d.Write("v1/a", "", 1))
	ok(t, d.Link("v1/l", "d", 1))
	roots := map[string]api.Errno{"v2": api.ErrNone, "v": api.ErrNone, "v11": api.ErrNone, "v1/b": api.ErrNone, "v1/a/b": api.ErrNone, "v1/a": api.ErrDir, "v1/l": api.ErrDir, "v1/d": api.OK, "v1": api.OK}
	for _, p := range noPaths {
		roots[p] = api.ErrPath
	}
	for root, want := range roots {
		noList(t, nil, root, api.ErrNil)
		cleans(t, nil, root, trash, 7, 0, api.ErrNil)
		noList(t, d, root, want)
		cleans(t, d, root, trash, 7, 0, want)
		for _, p := range noPolicies {
			cleans(t, nil, root, p, 7, 0, api.ErrArg)
			cleans(t, d, root, p, 7, 0, api.ErrArg)
		}
	}
}

// P19.3: what can't be read, and of several errors the first one.
func TestNoRead(t *testing.T) {
	d := newDisk(t, room)
	name := nameOf(7, 0)
	added(t, d, "v1", "a", file("xy", 3), 7, name)
	ok(t, d.Write("0000000007-0000", bytesOf("a", "xy"), 3))
	for _, p := range noPaths {
		for _, q := range append([]string{name, "a", "v1"}, noPaths...) {
			noRead(t, nil, p, q, api.ErrNil)
			noRead(t, d, p, q, api.ErrPath)
		}
	}
	for _, q := range []string{"", "/", "//", ".", "..", "/" + name, name + "/", "./" + name, "../v1/" + name, "\n", name + "\x00", strings.Repeat("n", 49), "2/3/4/5/6/7"} {
		noRead(t, d, "v1", q, api.ErrPath)
		noRead(t, nil, "v1", q, api.ErrNil)
	}
	noRead(t, nil, "v1", name, api.ErrNil)
	noRead(t, d, "v2", name, api.ErrNone)
	noRead(t, d, "v1", nameOf(7, 1), api.ErrNone)
	noRead(t, d, "v1", "a", api.ErrNone)
	noRead(t, d, "v1", name+"/a", api.ErrNone)
	noRead(t, d, "v", "1/"+name, api.ErrNone)
	ok(t, d.Fuse(0)) // a disk without power tells the same
	reads(t, d, "v1", name, "a", file("xy", 3))
	noRead(t, d, "v1", nameOf(7, 1), api.ErrNone)
}

// P19.4: nothing goes by what is no policy, or of no entries.
func TestGoesNothing(t *testing.T) {
	l := slices.Concat(of("a", 1, 1, 1, 2, 3), of("b", 4))
	for _, now := range []int64{math.MinInt64, 0, 5, 1 << 20, top, math.MaxInt64} {
		for _, p := range noPolicies {
			goes(t, p, l, now)
		}
		for _, p := range []archive.Policy{trash, keep(6), keep(100), maxAge(trash, top), maxAge(keep(100), top)} {
			goes(t, p, l, now)
		}
		for _, p := range []archive.Policy{trash, simple, staggered, maxAge(trash, 1), maxAge(simple, 1), maxAge(staggered, 1)} {
			goes(t, p, nil, now)
			goes(t, p, []archive.Entry{}, now)
			goes(t, p, of("a", 1), now)
			goes(t, p, slices.Concat(of("a", 1), of("b", 2), of("a/b", 3)), now)
		}
	}
}

// P19.4: those whose age is above MaxAge go, but for the newest of each path.
func TestMaxAge(t *testing.T) {
	l := slices.Concat(of("a", 10, 20, 30), []archive.Entry{{Name: "0000000005-0000", Path: "b", Time: 5}, {Name: "0000000006-0000", Path: "b", Time: 6}, {Name: "0000000007-0000", Path: "c", Time: 7}})
	a := of("a", 10, 20, 30)
	for _, x := range []struct {
		age  int64
		now  int64
		want []string
	}{
		{0, top, nil},
		{1, 5, nil}, {1, 6, nil}, {1, 7, []string{"0000000005-0000"}},
		{10, 20, []string{"0000000005-0000"}}, {10, 21, []string{"0000000005-0000", a[0].Name}},
		{10, 30, []string{"0000000005-0000", a[0].Name}}, {10, 31, []string{"0000000005-0000", a[0].Name, a[1].Name}},
		{10, 41, []string{"0000000005-0000", a[0].Name, a[1].Name}},
		{top, math.MaxInt64, nil}, {top - 19, top, []string{"0000000005-0000", a[0].Name}},
		{top - 5, math.MaxInt64, nil}, {top - 6, math.MaxInt64, []string{"0000000005-0000"}},
	} {
		goes(t, maxAge(trash, x.age), l, x.now, x.want...)
		goes(t, maxAge(keep(100), x.age), l, x.now, x.want...)
	}
}

// P19.4: all but the last Keep of each path go, and those that are too old.
func TestSimple(t *testing.T) {
	var times []int64
	for i := range int64(120) {
		times = append(times, i)
	}
	a := of("a", times...)
	b := []archive.Entry{{Name: "0000000003-9999", Path: "b", Time: 3}, {Name: "0000000118-9999", Path: "b", Time: 118}}
	l := slices.Concat(a, b)
	for _, n := range []int{1, 2, 3, 50, 99, 100} {
		var want []string
		for i := range 120 - n {
			want = append(want, a[i].Name)
		}
		if n == 1 {
			want = slices.Insert(want, 4, b[0].Name)
		}
		goes(t, keep(n), l, 119, want...)
		goes(t, keep(n), l, 0, want...)
		goes(t, keep(n), l, top, want...)
	}
	// Of the last three those of 117 and 118 are above 1: which of them count as the last does not hang on it.
	goes(t, maxAge(keep(3), 1), a[115:], 119, a[115].Name, a[116].Name, a[117].Name)
	goes(t, maxAge(keep(2), 4), a[115:], 119, a[115].Name, a[116].Name, a[117].Name)
	goes(t, maxAge(keep(4), 2), a[115:], 119, a[115].Name, a[116].Name)
	// By names, not by times: of ages 5, 50, 7 the last two in order are those of 50 and 7.
	l = aged(5, 50, 7)
	goes(t, maxAge(keep(2), 10), l, top, l[0].Name, l[1].Name)
	goes(t, keep(2), l, top, l[0].Name)
}

// P19.4: of those of one bucket all but the first go; buckets at their edges.
func TestBuckets(t *testing.T) {
	edges := []int64{0, 9, 10, 19, 20, 89, 90, 99, 100, 199, 200, 899, 900, 999, 1000, 1999, 2000, 8999, 9000, 9999, 10000, 19999, 20000, 90000, 99999, 100000, 109999, 110000, 999999, 1000000, top - 7296, top - 7295, top - 1, top}
	for _, x := range edges {
		for _, y := range edges {
			if y >= x {
				continue
			}
			l := aged(x, y, 0) // and the newest one
			if x == 0 || y == 0 {
				l = aged(x, y, 500000)
			}
			if bucketOf(x) == bucketOf(y) {
				goes(t, staggered, l, top, l[1].Name)
			} else {
				goes(t, staggered, l, top)
			}
		}
	}
	for _, x := range []struct{ a, b int64 }{{0, 9}, {10, 19}, {90, 99}, {100, 199}, {900, 999}, {1000, 1999}, {9000, 9999}, {10000, 19999}, {4294960000, top}} {
		if bucketOf(x.a) != bucketOf(x.b) || x.a > 0 && bucketOf(x.a) == bucketOf(x.a-1) || x.b < top && bucketOf(x.b) == bucketOf(x.b+1) {
			t.Errorf("the model's buckets of %d and %d", x.a, x.b)
		}
	}
}

// bucketOf tells it by the chapter's words: ages that have the same answer have one bucket.
func bucketOf(age int64) string {
	switch {
	case age < 100:
		return "10: " + strconv.FormatInt(age/10, 10)
	case age < 1000:
		return "100: " + strconv.FormatInt(age/100, 10)
	case age < 10000:
		return "1000: " + strconv.FormatInt(age/1000, 10)
	}
	return "10000: " + strconv.FormatInt(age/10000, 10)
}

// P19.4: the newest one stays though it is not the first of its bucket, and keeps nobody else; those that are too old keep no bucket.
func TestStaggered(t *testing.T) {
	l := aged(25, 24, 23, 5, 4, 3)
	goes(t, staggered, l, top, l[1].Name, l[2].Name, l[4].Name)
	goes(t, maxAge(staggered, 25), l, top, l[1].Name, l[2].Name, l[4].Name)
	goes(t, maxAge(staggered, 24), l, top, l[0].Name, l[2].Name, l[4].Name)
	goes(t, maxAge(staggered, 23), l, top, l[0].Name, l[1].Name, l[4].Name)
	goes(t, maxAge(staggered, 22), l, top, l[0].Name, l[1].Name, l[2].Name, l[4].Name)
	goes(t, maxAge(staggered, 1), l, top, l[0].Name, l[1].Name, l[2].Name, l[3].Name, l[4].Name)
	// Times that do not rise: the first in order, not the oldest one.
	l = aged(3, 250, 5, 201, 4, 299, 7)
	goes(t, staggered, l, top, l[2].Name, l[3].Name, l[4].Name, l[5].Name)
	// Each path has buckets of its own.
	b := []archive.Entry{{Name: "0000000000-0001", Path: "b", Time: top - 4}, {Name: "0000000002-0001", Path: "b", Time: top - 201}, {Name: "0000000009-0001", Path: "b", Time: top - 5}}
	goes(t, staggered, slices.Concat(l, b), top, l[2].Name, l[3].Name, l[4].Name, l[5].Name)
}

// P19.4: now and Time count as 0, if they are below 0, and as 2^32 - 1, if they are above; no age is below 0.
func TestAges(t *testing.T) {
	at := func(time int64) []archive.Entry {
		return []archive.Entry{{Name: "1", Path: "a", Time: time}, {Name: "2", Path: "a"}}
	}
	for _, x := range []struct {
		time int64
		now  int64
		age  int64
	}{
		{0, 5, 5}, {-1, 5, 5}, {math.MinInt64, 5, 5}, {5, 5, 0}, {6, 5, 0}, {top, 5, 0}, {math.MaxInt64, 5, 0},
		{0, -1, 0}, {-9, -1, 0}, {-1, -9, 0}, {math.MinInt64, math.MaxInt64, top}, {math.MaxInt64, math.MinInt64, 0}, {0, math.MinInt64, 0},
		{5, top, top - 5}, {5, top + 1, top - 5}, {5, math.MaxInt64, top - 5}, {top + 1, math.MaxInt64, 0}, {top - 3, top + 9, 3}, {top + 9, top, 0}, {math.MinInt64, math.MinInt64, 0},
	} {
		if x.age > 0 {
			goes(t, maxAge(trash, x.age), at(x.time), x.now)
		}
		if x.age > 1 {
			goes(t, maxAge(trash, x.age-1), at(x.time), x.now, "1")
		}
		if x.age == 0 {
			goes(t, maxAge(trash, 1), at(x.time), x.now)
		}
	}
	// Two that count as one time have one bucket; above 2^32 - 1 no other one begins.
	l := []archive.Entry{{Name: "1", Path: "a", Time: -90000}, {Name: "2", Path: "a", Time: 0}, {Name: "3", Path: "a", Time: top}, {Name: "4", Path: "a", Time: top + 90000}, {Name: "5", Path: "a", Time: 70}}
	goes(t, staggered, l, 90000, "2", "4")
	goes(t, staggered, l, top+90000, "2", "4")
}

// P19.4: order is by names, byte by byte, whatever they are; of several of one name the first one counts.
func TestNames(t *testing.T) {
	var l []archive.Entry
	for _, name := range []string{"b", "a/b", "a b", "a", "", "\xff", "10", "9", "\u00e9", "a-"} {
		l = append(l, archive.Entry{Name: name, Path: "p"})
	}
	goes(t, simple, l, 0, "", "10", "9", "a", "a b", "a-", "a/b", "b", "\u00e9")
	goes(t, keep(3), l, 0, "", "10", "9", "a", "a b", "a-", "a/b")
	goes(t, simple, []archive.Entry{{Name: "a/b"}, {Name: "a b"}}, 0, "a b")
	goes(t, simple, []archive.Entry{{Name: "a-"}, {Name: "a/b"}}, 0, "a-")
	e := func(name, p string, time int64) archive.Entry { return archive.Entry{Name: name, Path: p, Time: time} }
	goes(t, simple, []archive.Entry{e("1", "a", 1), e("1", "a", 2), e("1", "a", 3)}, 0)
	goes(t, simple, []archive.Entry{e("1", "a", 1), e("2", "a", 1), e("1", "a", 1), e("2", "a", 1)}, 0, "1")
	goes(t, simple, []archive.Entry{e("2", "b", 1), e("1", "a", 1), e("2", "a", 1)}, 0)
	goes(t, simple, []archive.Entry{e("2", "a", 1), e("1", "a", 1), e("2", "b", 1)}, 0, "1")
	goes(t, keep(2), []archive.Entry{e("3", "a", 1), e("1", "a", 1), e("3", "a", 1), e("2", "a", 1), e("3", "a", 1), e("2", "a", 1)}, 0, "1")
	goes(t, maxAge(trash, 5), []archive.Entry{e("2", "a", 9), e("1", "a", 9), e("1", "a", 1)}, 10)
	goes(t, maxAge(trash, 5), []archive.Entry{e("1", "a", 1), e("2", "a", 9), e("1", "a", 9)}, 10, "1")
	goes(t, staggered, []archive.Entry{e("1", "a", 1), e("1", "a", 55), e("2", "a", 51), e("3", "a", 99)}, 100)
	goes(t, staggered, []archive.Entry{e("1", "a", 55), e("1", "a", 1), e("2", "a", 51), e("3", "a", 99)}, 100, "2")
	// Any text may be a path: what is none is put together, too.
	goes(t, simple, []archive.Entry{e("1", "", 1), e("2", "", 1), e("3", "//", 1), e("4", "//", 1), e("5", "a", 1), e("6", "A", 1)}, 0, "1", "3")
}

// going tells what goes by the chapter's words: one by one, against all others.
func going(p archive.Policy, l []archive.Entry, now int64) []string {
	if archive.Check(p) != api.OK {
		return nil
	}
	var all []archive.Entry
	for _, e := range l {
		if !slices.ContainsFunc(all, func(x archive.Entry) bool { return x.Name == e.Name }) {
			all = append(all, e)
		}
	}
	clamped := func(t int64) int64 { return max(0, min(t, top)) }
	age := func(e archive.Entry) int64 { return max(0, clamped(now)-clamped(e.Time)) }
	old := func(e archive.Entry) bool { return p.MaxAge != 0 && age(e) > p.MaxAge }
	var names []string
	for _, e := range all {
		behind, sharers := 0, 0
		for _, x := range all {
			if x.Path == e.Path && x.Name > e.Name {
				behind++
			}
			if x.Path == e.Path && x.Name < e.Name && !old(x) && !old(e) && bucketOf(age(x)) == bucketOf(age(e)) {
				sharers++
			}
		}
		if behind > 0 && (old(e) || p.Kind == archive.Simple && behind >= p.Keep || p.Kind == archive.Staggered && sharers > 0) {
			names = append(names, e.Name)
		}
	}
	slices.Sort(names)
	return names
}

// anyPolicy is one, or, seldom, none.
func anyPolicy(r *rand.Rand) archive.Policy {
	p := archive.Policy{Kind: 1 + r.Intn(3)}
	if p.Kind == archive.Simple {
		p.Keep = 1 + r.Intn(4)
	}
	if r.Intn(2) == 0 {
		p.MaxAge = anyAge(r)
	}
	if r.Intn(20) == 0 {
		p.Kind = r.Intn(5)
	}
	return p
}

// anyAge is of any size, near to the edge of a bucket.
func anyAge(r *rand.Rand) int64 {
	n := int64(1 + r.Intn(9))
	for range r.Intn(6) {
		n *= 10
	}
	return max(0, n+int64(r.Intn(5)-2))
}

func anyEntries(r *rand.Rand, now int64) []archive.Entry {
	var l []archive.Entry
	for range r.Intn(30) {
		time := now - anyAge(r) + int64(r.Intn(4))
		e := archive.Entry{Name: nameOf(max(0, time), r.Intn(3)), Path: string(rune('a' + r.Intn(3))), Time: time, Size: r.Intn(9)}
		switch r.Intn(8) {
		case 0:
			e.Time += anyAge(r)
		case 1:
			e.Name = strconv.Itoa(r.Intn(9))
		}
		l = append(l, e)
	}
	return l
}

// P19.4, P19.5: any entries, against the chapter's words; in any order; and what is left stays.
func TestAnyEntries(t *testing.T) {
	r := rand.New(rand.NewSource(1))
	for range 20000 {
		now := anyAge(r)
		l, p := anyEntries(r, now), anyPolicy(r)
		was := slices.Clone(l)
		names := archive.Goes(p, l, now)
		if !slices.Equal(l, was) {
			t.Fatalf("Goes changes %v to %v", was, l)
		}
		if want := going(p, l, now); !slices.Equal(names, want) {
			t.Fatalf("Goes(%v, %v, %d) = %q, not %q", p, l, now, names, want)
		}
		slices.SortStableFunc(l, func(a, b archive.Entry) int { return cmp.Compare(a.Name, b.Name) })
		l = slices.CompactFunc(l, func(a, b archive.Entry) bool { return a.Name == b.Name })
		r.Shuffle(len(l), func(i, j int) { l[i], l[j] = l[j], l[i] })
		goes(t, p, l, now, names...)
		goes(t, p, left(l, names), now)
	}
}

// P19.5: the newest of each path stays, and, staggered, the oldest one of each bucket that is not too old, and nothing else.
func TestKept(t *testing.T) {
	r := rand.New(rand.NewSource(2))
	for range 3000 {
		now := int64(r.Intn(200000))
		var l []archive.Entry
		for i := range r.Intn(40) {
			time := max(0, now-anyAge(r))
			l = append(l, archive.Entry{Name: nameOf(time, i), Path: string(rune('a' + r.Intn(2))), Time: time})
		}
		p := anyPolicy(r)
		rest := left(l, archive.Goes(p, l, now))
		slices.SortFunc(l, func(a, b archive.Entry) int { return cmp.Compare(a.Name, b.Name) })
		newest, oldest := map[string]archive.Entry{}, map[string]archive.Entry{}
		for _, e := range l {
			newest[e.Path] = e
			seat := e.Path + " " + bucketOf(now-e.Time)
			if _, taken := oldest[seat]; !taken && (p.MaxAge == 0 || now-e.Time <= p.MaxAge) {
				oldest[seat] = e
			}
		}
		for _, e := range newest {
			if !slices.Contains(rest, e) {
				t.Fatalf("%v: the newest one goes, %v of %v", p, e, l)
			}
		}
		if p.Kind != archive.Staggered || archive.Check(p) != api.OK {
			continue
		}
		for _, e := range rest {
			if e != newest[e.Path] && e != oldest[e.Path+" "+bucketOf(now-e.Time)] {
				t.Fatalf("%v: %v stays of %v", p, e, l)
			}
		}
		for _, e := range oldest {
			if !slices.Contains(rest, e) {
				t.Fatalf("%v: %v goes of %v", p, e, l)
			}
		}
	}
}

// P19.4: Clean removes what goes, and nothing else.
func TestClean(t *testing.T) {
	d := with(t, "v1", "v1/0000000002-0000", "v2")
	var all []archive.Entry
	for _, now := range []int64{1, 3, 5, 7, 9} {
		added(t, d, "v1", "a", file("x", now), now, nameOf(now, 0))
		all = append(all, archive.Entry{Name: nameOf(now, 0), Path: "a", Time: now, Size: 1})
	}
	added(t, d, "v1", "b", file("yy", 8), 8, nameOf(8, 0))
	added(t, d, "v2", "a", file("x", 1), 1, nameOf(1, 0))
	added(t, d, "v2", "a", file("x", 1), 1, nameOf(1, 1))
	ok(t, d.Write("v1/0000000001-0001", "none", 1))
	ok(t, d.Write("v1/other", bytesOf("a", ""), 1))
	ok(t, d.Sync())
	before := told(d)
	cleans(t, d, "v1", trash, 9, 0, api.OK)
	cleans(t, d, "v1", maxAge(trash, 8), 9, 0, api.OK)
	cleans(t, d, "v1", keep(5), 9, 0, api.OK)
	if told(d) != before {
		t.Errorf("what removes nothing changes the disk")
	}
	cleans(t, d, "v1", maxAge(trash, 5), 9, 2, api.OK)
	b := archive.Entry{Name: nameOf(8, 0), Path: "b", Time: 8, Size: 2}
	lists(t, d, "v1", all[2], all[3], b, all[4])
	if d.Pending() != 2 {
		t.Errorf("%d effects", d.Pending())
	}
	cleans(t, d, "v1", keep(2), 9, 1, api.OK)
	cleans(t, d, "v1", keep(2), 9, 0, api.OK)
	lists(t, d, "v1", all[3], b, all[4])
	cleans(t, d, "v1", staggered, 9, 0, api.OK) // of one bucket the first one and the newest one
	cleans(t, d, "v1", maxAge(staggered, 1), math.MaxInt64, 1, api.OK)
	lists(t, d, "v1", b, all[4])
	want := []string{"v1", "v1/0000000001-0001", "v1/0000000002-0000", "v1/" + nameOf(8, 0), "v1/" + nameOf(9, 0), "v1/other", "v2", "v2/" + nameOf(1, 0), "v2/" + nameOf(1, 1)}
	if l := d.Paths(); !slices.Equal(l, want) {
		t.Errorf("there are %q, not %q", l, want)
	}
	ok(t, d.Crash(nil)) // nothing was made to last
	lists(t, d, "v1", slices.Insert(slices.Clone(all), 4, b)...)
}

// P19.4: what Remove answers ends it: how many were removed is told beside it.
func TestCleanPower(t *testing.T) {
	for fuse := range 6 {
		d := newDisk(t, room)
		var all []archive.Entry
		for i := range 5 {
			added(t, d, "v1", "a", file("x", 1), 7, nameOf(7, i))
			all = append(all, archive.Entry{Name: nameOf(7, i), Path: "a", Time: 7, Size: 1})
		}
		ok(t, d.Fuse(fuse))
		err := api.OK
		if fuse < 4 {
			err = api.ErrClosed
		}
		cleans(t, d, "v1", simple, 9, min(4, fuse), err)
		lists(t, d, "v1", all[min(4, fuse):]...)
		cleans(t, d, "v1", keep(100), 9, 0, api.OK)
	}
}

// P19.6, P19.8: what is added comes back, whatever else is; names rise; all that is listed is what was added.
func TestBack(t *testing.T) {
	r := rand.New(rand.NewSource(3))
	paths := []string{"a", "a/b", "b", "\xff \x80", "d/e/f/g/h/i", "~t~x"}
	for range 200 {
		d := newDisk(t, room)
		now, last := int64(r.Intn(3)), ""
		var entries []archive.Entry
		var files []api.Node
		for range 1 + r.Intn(30) {
			data := make([]byte, r.Intn(40))
			r.Read(data)
			n := file(string(data), int64(r.Intn(1000)))
			p := paths[r.Intn(len(paths))]
			name, err := archive.Add(d, "v1", p, n, now)
			if err != api.OK || name <= last {
				t.Fatalf("Add = %q, %d, behind %q", name, err, last)
			}
			last = name
			entries = append(entries, archive.Entry{Name: name, Path: p, Time: now, Size: len(data)})
			files = append(files, n)
			now += int64(r.Intn(3) * r.Intn(2000))
		}
		lists(t, d, "v1", entries...)
		for i, e := range entries {
			reads(t, d, "v1", e.Name, e.Path, files[i])
		}
		p := anyPolicy(r)
		names := archive.Goes(p, entries, now)
		err := archive.Check(p)
		cleans(t, d, "v1", p, now, len(names), err)
		lists(t, d, "v1", left(entries, names)...)
		cleans(t, d, "v1", p, now, 0, err)
		for i, e := range entries {
			if slices.Contains(names, e.Name) {
				noRead(t, d, "v1", e.Name, api.ErrNone)
			} else {
				reads(t, d, "v1", e.Name, e.Path, files[i])
			}
		}
	}
}

// P19.3, P19.7: any bytes, against the chapter's words.
func TestAnyBytes(t *testing.T) {
	r := rand.New(rand.NewSource(4))
	d := with(t, "v1")
	for range 20000 {
		b := make([]byte, r.Intn(9))
		for i := range b {
			b[i] = "\x00\x00\x01\x02\x03ab/."[r.Intn(9)]
		}
		s := string(b)
		ok(t, d.Write("v1/0000000007-0000", s, 3))
		size := 0
		if len(s) >= 2 {
			size = int(s[0])<<8 + int(s[1])
		}
		if len(s) < 2 || size > len(s)-2 || !path.May(s[2:2+size]) {
			lists(t, d, "v1")
			noRead(t, d, "v1", "0000000007-0000", api.ErrForm)
			continue
		}
		lists(t, d, "v1", archive.Entry{Name: "0000000007-0000", Path: s[2 : 2+size], Time: 7, Size: len(s) - 2 - size})
		reads(t, d, "v1", "0000000007-0000", s[2:2+size], file(s[2+size:], 3))
	}
}

// P19.7: no call panics, and each ends.
func TestAnything(t *testing.T) {
	r := rand.New(rand.NewSource(5))
	texts := append([]string{"v1", "v2", "a", "a/b", "0000000007-0000", "0000000007-0001", "x", strings.Repeat("x/", 4000)}, noPaths...)
	numbers := append([]int64{0, 1, 2, 7, 8, 100, top}, noTimes...)
	text := func() string { return texts[r.Intn(len(texts))] }
	number := func() int64 { return numbers[r.Intn(len(numbers))] }
	for range 50 {
		disks := []*disk.Disk{nil, {}, newDisk(t, 1024), newDisk(t, room)}
		for range 300 {
			d := disks[r.Intn(len(disks))]
			p := archive.Policy{Kind: int(number()), Keep: int(number()), MaxAge: number()}
			if r.Intn(2) == 0 {
				p = anyPolicy(r)
			}
			n := api.Node{Kind: r.Intn(5), Data: text(), Target: text(), Time: number()}
			switch r.Intn(8) {
			case 0, 1, 2:
				archive.Add(d, text(), text(), n, number())
			case 3:
				archive.List(d, text())
			case 4:
				archive.Read(d, text(), text())
			case 5:
				archive.Clean(d, text(), p, number())
			case 6:
				archive.Goes(p, []archive.Entry{{text(), text(), number(), int(number())}, {text(), text(), number(), int(number())}, {}}, number())
			case 7:
				if r.Intn(40) == 0 {
					d.Fuse(r.Intn(5))
				}
				archive.Check(p)
			}
		}
	}
}

// P19.7: what is answered is new memory.
func TestNewMemory(t *testing.T) {
	d := newDisk(t, room)
	for i := range 3 {
		added(t, d, "v1", "a", file("x", 1), 7, nameOf(7, i))
	}
	l, _ := archive.List(d, "v1")
	want := slices.Clone(l)
	clear(l)
	lists(t, d, "v1", want...)
	names := archive.Goes(simple, want, 9)
	clear(names)
	goes(t, simple, want, 9, nameOf(7, 0), nameOf(7, 1))
	room := want[:2:3] // nothing is written behind what is handed in
	goes(t, simple, room, 9, nameOf(7, 0))
	goes(t, keep(2), slices.Insert(room[:1:1], 0, room[1]), 9)
	lists(t, d, "v1", want...)
}

// R6: the order in which a map is gone through is not to be seen; many entries are told soon.
func TestManyEntries(t *testing.T) {
	var l []archive.Entry
	for i := range int64(60000) {
		l = append(l, archive.Entry{Name: nameOf(i*2000, 0), Path: "p" + strconv.FormatInt(i%3, 10), Time: i * 2000})
	}
	slices.Reverse(l)
	names := archive.Goes(staggered, l, top)
	if !slices.IsSorted(names) || len(names) == 0 {
		t.Errorf("Goes tells %d names", len(names))
	}
	for range 3 {
		goes(t, staggered, l, top, names...)
	}
	goes(t, staggered, left(l[:900], names), top)
}
