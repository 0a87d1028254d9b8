package store_test

import (
	"math"
	"math/rand"
	"slices"
	"strconv"
	"strings"
	"testing"

	"caravan/api"
	"caravan/block"
	"caravan/disk"
	"caravan/journal"
	"caravan/record"
	"caravan/store"
)

const (
	maxSeq = 1 << 62
	head   = 20 // bytes that a log without entries has
	room   = 1 << 14
)

// noDevices are none, some of which would be one if they were cut to fewer bits.
var noDevices = []int{0, -1, 17, 18, 32, 33, 256, 257, 65537, -15, math.MinInt, math.MaxInt, math.MinInt + 1, 1<<32 + 1}

// aDir is the directory d of chapter 6.
func aDir() api.Record { return dirOf("d") }

func dirOf(p string) api.Record {
	return api.Record{Path: p, Kind: api.KDir, Time: 9, By: 3, Vector: api.Vector{2: 1}}
}

func fileOf(p string, size int) api.Record {
	r := dirOf(p)
	r.Kind, r.Size, r.BlockSize = api.KFile, size, block.Size(size)
	for i := range block.Count(size) {
		r.Blocks = append(r.Blocks, api.Hash{byte(i), byte(size)})
	}
	return r
}

func numbered(r api.Record, seq int64) api.Record {
	r.Seq = seq
	return r
}

// at answers r at a time, so that it is another record.
func at(r api.Record, time int64) api.Record {
	r.Time = time
	return r
}

// many are records of so many different paths.
func many(n int) []api.Record {
	var l []api.Record
	for i := range n {
		l = append(l, numbered(dirOf("p"+strconv.Itoa(i)), int64(i+1)))
	}
	return l
}

func alike(a, b api.Record) bool { return record.Same(a, b) && a.Seq == b.Seq }

func allAlike(a, b []api.Record) bool { return slices.EqualFunc(a, b, alike) }

func newDisk(t *testing.T, room int) *disk.Disk {
	t.Helper()
	d, err := disk.New(room)
	if err != api.OK {
		t.Fatalf("disk.New(%d) = %d", room, err)
	}
	return d
}

func ok(t *testing.T, err api.Errno) {
	t.Helper()
	if err != api.OK {
		t.Errorf("%d, not OK", err)
	}
}

func opened(t *testing.T, d *disk.Disk, dir string, self int, fresh uint64) *store.Store {
	t.Helper()
	s, err := store.Open(d, dir, self, fresh)
	if s == nil || err != api.OK {
		t.Fatalf("Open(%s, %d, %d) = %v, %d", dir, self, fresh, s, err)
	}
	return s
}

// made is a store of device 1 in x1 of a disk of its own.
func made(t *testing.T) (*disk.Disk, *store.Store) {
	t.Helper()
	d := newDisk(t, room)
	return d, opened(t, d, "x1", 1, 7)
}

func notOpened(t *testing.T, d *disk.Disk, dir string, self int, want api.Errno) {
	t.Helper()
	if s, err := store.Open(d, dir, self, 9); s != nil || err != want {
		t.Errorf("Open(%q, %d) = %v, %d, not nil, %d", dir, self, s, err, want)
	}
}

func put(t *testing.T, s *store.Store, r api.Record) api.Record {
	t.Helper()
	last := s.Index().Last()
	got, err := s.Put(r)
	if err != api.OK || !alike(got, numbered(r, last+1)) || s.Index().Last() != last+1 {
		t.Fatalf("Put(%v) = %v, %d; Last is %d, and was %d", r, got, err, s.Index().Last(), last)
	}
	return got
}

// state is what a store says of itself.
type state struct {
	id   uint64
	last int64
	own  []api.Record // by rising Seq
}

func stateOf(s *store.Store) state {
	return state{s.ID(), s.Index().Last(), s.Index().Since(0)}
}

func (x state) is(y state) bool {
	return x.id == y.id && x.last == y.last && allAlike(x.own, y.own)
}

func says(t *testing.T, s *store.Store, id uint64, last int64, own ...api.Record) {
	t.Helper()
	if got, want := stateOf(s), (state{id, last, own}); !got.is(want) {
		t.Errorf("the store says %v, not %v", got, want)
	}
}

// bytesOf are those of a log with these entries.
func bytesOf(t *testing.T, id uint64, l ...api.Record) string {
	t.Helper()
	b, err := journal.Pack(id, l)
	if err != api.OK {
		t.Fatalf("Pack = %d", err)
	}
	return string(b)
}

// logIs holds the log in x1 against bytes, and looks that it is not written anew any more.
func logIs(t *testing.T, d *disk.Disk, want string) {
	t.Helper()
	n, err := d.Read("x1/log")
	if err != api.OK || n.Kind != api.KFile || n.Data != want {
		t.Errorf("the log is %d, %q, not %q", err, n.Data, want)
	}
	if n, err := d.Read("x1/new"); err != api.ErrNone {
		t.Errorf("there is new: %v, %d", n, err)
	}
}

// withLog answers a disk with these bytes as the log in x1, which last.
func withLog(t *testing.T, log string) *disk.Disk {
	t.Helper()
	d := newDisk(t, api.MaxRoom)
	ok(t, d.Mkdir("x1"))
	ok(t, d.Write("x1/log", log, 5))
	ok(t, d.Sync())
	return d
}

// told writes all that is to be seen of a disk.
func told(d *disk.Disk) string {
	var b strings.Builder
	for _, p := range d.Paths() {
		n, _ := d.Read(p)
		b.WriteString(strconv.Quote(p) + strconv.Itoa(n.Kind) + strconv.Quote(n.Data) + n.Target + strconv.FormatInt(n.Time, 10) + "\n")
	}
	return b.String() + strconv.Itoa(d.Pending())
}

func TestExamples(t *testing.T) {
	d, s := made(t)
	if s.ID() != 7 || s.Size() != 20 || s.Index().Last() != 0 {
		t.Errorf("ID = %d, Size = %d, Last = %d", s.ID(), s.Size(), s.Index().Last())
	}
	if r, err := s.Put(aDir()); err != api.OK || !alike(r, numbered(aDir(), 1)) || s.Index().Last() != 1 {
		t.Errorf("Put(D) = %v, %d; Last = %d", r, err, s.Index().Last())
	}
	if r, err := s.Put(dirOf("a//b")); err != api.ErrPath || !alike(r, api.Record{}) {
		t.Errorf("Put(a//b) = %v, %d", r, err)
	}
	ok(t, d.Crash(nil))
	s = opened(t, d, "x1", 1, 9)
	says(t, s, 7, 0)
	put(t, s, aDir())
	ok(t, s.Sync())
	put(t, s, aDir())
	ok(t, d.Crash(nil))
	s = opened(t, d, "x1", 1, 9)
	says(t, s, 7, 1, numbered(aDir(), 1))
	ok(t, d.Write("x1/log", "other bytes", 3))
	says(t, opened(t, d, "x1", 1, 9), 9, 0)
}

// P16.1: what is handed in that can't be.
func TestOpenRefuses(t *testing.T) {
	for _, d := range []*disk.Disk{nil, {}, new(disk.Disk)} {
		for _, dir := range []string{"x1", "", "a//b"} {
			notOpened(t, d, dir, 1, api.ErrNil)
			notOpened(t, d, dir, 0, api.ErrNil)
		}
	}
	d := newDisk(t, room)
	deep := "a/b/c/d/e" // so that its log has six parts
	long := strings.Repeat("m", 48) + "/" + strings.Repeat("n", 48) + "/" + strings.Repeat("o", 13)
	for _, dir := range []string{"", "/", "x1/", "/x1", "a//b", ".", "..", "a/..", "a\nb", "\x7f", strings.Repeat("n", 49), deep + "/f", long + "o", long + "/p"} {
		notOpened(t, d, dir, 1, api.ErrArg)
	}
	for _, self := range noDevices {
		notOpened(t, d, "x1", self, api.ErrArg)
	}
	if len(d.Paths()) != 0 || d.Pending() != 0 {
		t.Error("a store that was not opened has changed the disk")
	}
	ok(t, d.Mkdir(long[:48]))
	ok(t, d.Mkdir(long[:97]))
	opened(t, d, long, 16, 0)
	for i := 1; i < len(deep); i += 2 {
		ok(t, d.Mkdir(deep[:i]))
	}
	for self := 1; self <= 16; self++ {
		s := opened(t, d, deep, self, uint64(self))
		says(t, s, 1, 0)
		if err := s.Index().Told(self, nil, true); err != api.ErrArg {
			t.Errorf("the index of device %d: Told(%d) = %d", self, self, err)
		}
	}
}

// P16.1: a directory is made, if nothing is there.
func TestOpenMakesDir(t *testing.T) {
	d := newDisk(t, room)
	s := opened(t, d, "x1", 1, 7)
	says(t, s, 7, 0)
	if l := d.Paths(); !slices.Equal(l, []string{"x1", "x1/log"}) || d.Pending() != 0 {
		t.Errorf("Paths = %v, Pending = %d", l, d.Pending())
	}
	logIs(t, d, bytesOf(t, 7))
	notOpened(t, d, "y/x1", 1, api.ErrNone)
	ok(t, d.Write("y", "", 1))
	notOpened(t, d, "y/x1", 1, api.ErrDir)
	notOpened(t, d, "y", 1, api.ErrDir)
	ok(t, d.Link("z", "x1", 1))
	notOpened(t, d, "z", 1, api.ErrDir)
	notOpened(t, d, "z/x1", 1, api.ErrDir)
	c := d.Copy()
	ok(t, c.Fuse(0))
	notOpened(t, c, "y", 1, api.ErrDir)
	notOpened(t, c, "z", 1, api.ErrDir)
	notOpened(t, c, "x2", 1, api.ErrClosed)
	ok(t, d.Mkdir("x2"))
	ok(t, d.Write("x2/other", "kept", 1))
	opened(t, d, "x2", 1, 7)
	if n, err := d.Read("x2/other"); err != api.OK || n.Data != "kept" {
		t.Errorf("Read(x2/other) = %v, %d", n, err)
	}
}

// P16.1: what is at new is removed, ahead of all else in the directory.
func TestOpenRemovesNew(t *testing.T) {
	news := map[string]func(d *disk.Disk) api.Errno{
		"file": func(d *disk.Disk) api.Errno { return d.Write("x1/new", bytesOf(t, 8), 0) },
		"link": func(d *disk.Disk) api.Errno { return d.Link("x1/new", "log", 0) },
		"dir":  func(d *disk.Disk) api.Errno { return d.Mkdir("x1/new") },
	}
	for what, lay := range news {
		d, s := made(t)
		put(t, s, aDir())
		ok(t, lay(d))
		s = opened(t, d, "x1", 1, 9)
		says(t, s, 7, 1, numbered(aDir(), 1))
		logIs(t, d, bytesOf(t, 7, numbered(aDir(), 1)))
		if t.Failed() {
			t.Fatalf("with a %s at new", what)
		}
	}
	d, s := made(t)
	put(t, s, aDir())
	ok(t, d.Mkdir("x1/new"))
	ok(t, d.Write("x1/new/a", "", 0))
	before := told(d)
	notOpened(t, d, "x1", 1, api.ErrBusy)
	ok(t, d.Remove("x1/log"))
	ok(t, d.Mkdir("x1/log"))
	notOpened(t, d, "x1", 1, api.ErrBusy)
	ok(t, d.Remove("x1/new/a"))
	notOpened(t, d, "x1", 1, api.ErrKind)
	if l := d.Paths(); !slices.Equal(l, []string{"x1", "x1/log"}) {
		t.Errorf("Paths = %v behind %s", l, before)
	}
}

// P16.1: the log is a file, if anything.
func TestOpenKind(t *testing.T) {
	d := newDisk(t, room)
	ok(t, d.Mkdir("x1"))
	ok(t, d.Mkdir("x1/log"))
	notOpened(t, d, "x1", 1, api.ErrKind)
	ok(t, d.Remove("x1/log"))
	ok(t, d.Link("x1/log", "new", 1))
	before := told(d)
	notOpened(t, d, "x1", 1, api.ErrKind)
	if told(d) != before {
		t.Errorf("the disk is %s, not %s", told(d), before)
	}
	ok(t, d.Remove("x1/log"))
	says(t, opened(t, d, "x1", 1, 9), 9, 0)
}

// goodLogs are entries that are good, and what they say.
func goodLogs() [][2][]api.Record {
	a, b := fileOf("a", 100), dirOf("b")
	edge := many(api.MaxRecords)
	over := append(slices.Clone(edge), numbered(at(edge[0], 10), 300), numbered(at(edge[0], 11), maxSeq))
	return [][2][]api.Record{
		{nil, nil},
		{{numbered(a, 1)}, {numbered(a, 1)}},
		{{numbered(a, maxSeq)}, {numbered(a, maxSeq)}},
		{{numbered(b, 3), numbered(a, 9)}, {numbered(b, 3), numbered(a, 9)}},
		{{numbered(a, 1), numbered(b, 2), numbered(at(a, 3), 3)}, {numbered(b, 2), numbered(at(a, 3), 3)}},
		{{numbered(a, 1), numbered(at(a, 2), 2), numbered(at(a, 3), 5)}, {numbered(at(a, 3), 5)}},
		{edge, edge},
		{over, append(slices.Clone(edge[1:]), over[257])},
	}
}

// badLogs are bytes of files that are no good logs.
func badLogs(t *testing.T) map[string]string {
	a, b := dirOf("a"), dirOf("b")
	return map[string]string{
		"empty":           "",
		"other":           "other bytes",
		"head cut":        bytesOf(t, 7)[:head-1],
		"head changed":    "CJ02" + bytesOf(t, 7)[4:],
		"mark changed":    bytesOf(t, 7)[:head-1] + "\x01",
		"number 0":        bytesOf(t, 7, a),
		"0, replaced":     bytesOf(t, 7, a, numbered(a, 1)),
		"falls to 0":      bytesOf(t, 7, numbered(a, 1), b),
		"same numbers":    bytesOf(t, 7, numbered(a, 3), numbered(b, 3)),
		"same, replaced":  bytesOf(t, 7, numbered(a, 3), numbered(a, 3)),
		"falls":           bytesOf(t, 7, numbered(a, 3), numbered(b, 2)),
		"falls, replaced": bytesOf(t, 7, numbered(a, 3), numbered(a, 2)),
		"falls midst":     bytesOf(t, 7, numbered(a, 3), numbered(b, 2), numbered(b, 4)),
		"too many":        bytesOf(t, 7, many(api.MaxRecords+1)...),
		"bad, and more":   bytesOf(t, 7, numbered(a, 3), numbered(b, 3)) + "\xff",
	}
}

// P16.1: a good log is a store of what it says, and stays as it is.
func TestOpenGood(t *testing.T) {
	for i, l := range goodLogs() {
		for _, id := range []uint64{0, 7, 1 << 63, math.MaxUint64} {
			log := bytesOf(t, id, l[0]...)
			d := withLog(t, log)
			last := int64(0)
			if n := len(l[0]); n > 0 {
				last = l[0][n-1].Seq
			}
			before := told(d)
			s := opened(t, d, "x1", 3, 9)
			says(t, s, id, last, l[1]...)
			if told(d) != before || s.Size() != len(log) {
				t.Errorf("log %d: Size = %d, not %d; or the disk was changed", i, s.Size(), len(log))
			}
			ok(t, d.Fuse(0))
			says(t, opened(t, d, "x1", 3, 9), id, last, l[1]...)
		}
	}
}

// P16.1: a good log with more than what is whole is written anew.
func TestOpenTorn(t *testing.T) {
	for i, l := range goodLogs() {
		log := bytesOf(t, 7, l[0]...)
		first := bytesOf(t, 7, numbered(fileOf("a/b", 20), 1))[head:]
		for _, more := range []string{"\xff", "\xff\xff", "\xff" + log, first[:len(first)-1], "\xff" + first, first + "x"} {
			d := withLog(t, log+more)
			last := int64(0)
			if n := len(l[0]); n > 0 {
				last = l[0][n-1].Seq
			}
			says(t, opened(t, d, "x1", 3, 9), 7, last, l[1]...)
			logIs(t, d, bytesOf(t, 7, l[1]...))
			if n, _ := d.Read("x1/log"); n.Time != 0 || d.Pending() != 0 {
				t.Errorf("log %d: Time = %d, Pending = %d", i, n.Time, d.Pending())
			}
		}
	}
}

// P16.1: what is not good is another log then.
func TestOpenBad(t *testing.T) {
	for what, log := range badLogs(t) {
		for _, id := range []uint64{0, 9, math.MaxUint64} {
			d := withLog(t, log)
			s, err := store.Open(d, "x1", 3, id)
			if s == nil || err != api.OK {
				t.Fatalf("%s: Open = %v, %d", what, s, err)
			}
			says(t, s, id, 0)
			logIs(t, d, bytesOf(t, id))
			if n, _ := d.Read("x1/log"); n.Time != 0 || d.Pending() != 0 || s.Size() != head {
				t.Errorf("%s: Time = %d, Pending = %d, Size = %d", what, n.Time, d.Pending(), s.Size())
			}
			put(t, s, aDir())
			says(t, opened(t, d, "x1", 3, 11), id, 1, numbered(aDir(), 1))
		}
	}
}

// P16.1: the first error of the disk is the answer.
func TestOpenDiskErrors(t *testing.T) {
	torn := bytesOf(t, 7, numbered(aDir(), 1)) + "\xff"
	lays := map[string]func(d *disk.Disk){
		"nothing": func(d *disk.Disk) {},
		"torn":    func(d *disk.Disk) { ok(t, d.Mkdir("x1")); ok(t, d.Write("x1/log", torn, 0)) },
		"new":     func(d *disk.Disk) { ok(t, d.Mkdir("x1")); ok(t, d.Write("x1/new", torn, 0)) },
	}
	steps := map[string]int{"nothing": 5, "torn": 4, "new": 5}
	for what, lay := range lays {
		for n := range steps[what] + 1 {
			d := newDisk(t, room)
			lay(d)
			ok(t, d.Fuse(n))
			s, err := store.Open(d, "x1", 1, 9)
			if n < steps[what] && (s != nil || err != api.ErrClosed) || n == steps[what] && (s == nil || err != api.OK) {
				t.Errorf("%s, a fuse of %d: Open = %v, %d", what, n, s, err)
			}
		}
	}
	for free := range 64 + 64 + head + 1 {
		d := newDisk(t, 1024)
		ok(t, d.Write("fill", strings.Repeat("x", 1024-64-free), 0))
		s, err := store.Open(d, "x1", 1, 9)
		if free < 64+64+head && (s != nil || err != api.ErrFull) || free == 64+64+head && (s == nil || err != api.OK) {
			t.Errorf("%d bytes free: Open = %v, %d", free, s, err)
		}
	}
}

// P16.2: what Own answers is the answer, and nothing has changed.
func TestPutRefuses(t *testing.T) {
	d, s := made(t)
	put(t, s, aDir())
	before := told(d)
	kind, by, form := aDir(), aDir(), aDir()
	kind.Kind, by.By, form.Size = 4, 0, 1
	wrong := map[api.Errno]api.Record{api.ErrPath: dirOf(""), api.ErrKind: kind, api.ErrArg: by, api.ErrForm: form}
	for want, r := range wrong {
		if got, err := s.Put(r); err != want || !alike(got, api.Record{}) || got.Blocks != nil {
			t.Errorf("Put(%v) = %v, %d, not %d", r, got, err, want)
		}
	}
	says(t, s, 7, 1, numbered(aDir(), 1))
	if told(d) != before {
		t.Errorf("the disk is %s, not %s", told(d), before)
	}
}

// P16.2: 256 paths, and numbers up to 2^62.
func TestPutEdges(t *testing.T) {
	l := many(api.MaxRecords)
	d := withLog(t, bytesOf(t, 7, l...))
	s := opened(t, d, "x1", 1, 9)
	if r, err := s.Put(dirOf("one more")); err != api.ErrFull || !alike(r, api.Record{}) {
		t.Errorf("Put of a path more = %v, %d", r, err)
	}
	says(t, s, 7, 256, l...)
	last := put(t, s, at(l[3], 77))
	l = append(slices.Delete(l, 3, 4), last)
	says(t, s, 7, 257, l...)
	says(t, opened(t, d, "x1", 1, 9), 7, 257, l...)

	d = withLog(t, bytesOf(t, 7, numbered(dirOf("a"), maxSeq-1)))
	s = opened(t, d, "x1", 1, 9)
	b := put(t, s, dirOf("b"))
	if r, err := s.Put(dirOf("a")); err != api.ErrArg || !alike(r, api.Record{}) {
		t.Errorf("Put behind the number 2^62 = %v, %d", r, err)
	}
	says(t, s, 7, maxSeq, numbered(dirOf("a"), maxSeq-1), b)
	says(t, opened(t, d, "x1", 1, 9), 7, maxSeq, numbered(dirOf("a"), maxSeq-1), b)
}

// P16.2: the log has the entry's bytes behind those that it had, and what is put is an effect alone.
func TestPutAppends(t *testing.T) {
	d, s := made(t)
	var l []api.Record
	for i, r := range []api.Record{fileOf("a", 4096), dirOf("\xff/\xfe"), numbered(fileOf("a", 0), 55), dirOf("a"), at(dirOf("b"), api.MaxTime)} {
		l = append(l, put(t, s, r))
		logIs(t, d, bytesOf(t, 7, l...))
		if d.Pending() != i+1 || s.Size() != len(bytesOf(t, 7, l...)) {
			t.Errorf("Pending = %d, Size = %d behind %d records", d.Pending(), s.Size(), i+1)
		}
	}
	says(t, s, 7, 5, l[1], l[3], l[4])
	if r, there := s.Index().Get(1, "a"); !there || !alike(r, l[3]) {
		t.Errorf("Get(1, a) = %v, %v", r, there)
	}
}

// P16.2: what the disk answers is the answer, and nothing has changed, whatever it is.
func TestPutDiskErrors(t *testing.T) {
	other := dirOf("told")
	breaks := map[api.Errno]func(d *disk.Disk){
		api.ErrClosed: func(d *disk.Disk) { ok(t, d.Fuse(0)) },
		api.ErrFull:   func(d *disk.Disk) { ok(t, d.Write("fill", strings.Repeat("x", d.Room()-d.Used()-64), 0)) },
		api.ErrNone:   func(d *disk.Disk) { ok(t, d.Remove("x1/log")) },
		api.ErrDir:    func(d *disk.Disk) { ok(t, d.Remove("x1/log")); ok(t, d.Mkdir("x1/log")) },
		api.ErrKind:   func(d *disk.Disk) { ok(t, d.Remove("x1/log")); ok(t, d.Link("x1/log", "x", 0)) },
	}
	for want, lay := range breaks {
		d, s := made(t)
		a, b := put(t, s, fileOf("a", 50)), put(t, s, dirOf("b"))
		log, _ := d.Read("x1/log")
		ok(t, s.Index().Told(2, []api.Record{other}, true))
		ok(t, s.Sync())
		lay(d)
		before := told(d)
		for _, r := range []api.Record{at(dirOf("a"), 33), dirOf("c"), at(dirOf("b"), 34)} {
			if got, err := s.Put(r); err != want || !alike(got, api.Record{}) || got.Blocks != nil {
				t.Errorf("Put = %v, %d, not %d", got, err, want)
			}
		}
		says(t, s, 7, 2, a, b)
		if told(d) != before || !allAlike(s.Index().Of(2), []api.Record{other}) {
			t.Errorf("%d: the disk is %s, not %s; or what was told is %v", want, told(d), before, s.Index().Of(2))
		}
		ok(t, d.Crash(nil))
		if n, err := d.Read("x1/log"); err != api.OK || n != log {
			t.Fatalf("%d: the log is %v, %d", want, n, err)
		}
		c := put(t, s, dirOf("c"))
		says(t, s, 7, 3, a, b, c)
		says(t, opened(t, d, "x1", 1, 9), 7, 3, a, b, c)
	}
}

// P16.2: an entry that has just no room is not there; one that has just room is.
func TestPutRoom(t *testing.T) {
	entry := len(bytesOf(t, 7, numbered(aDir(), 1))) - head
	for free := range entry + 1 {
		d, s := made(t)
		ok(t, d.Write("fill", strings.Repeat("x", d.Room()-d.Used()-64-free), 0))
		_, err := s.Put(aDir())
		if free < entry && (err != api.ErrFull || s.Size() != head) || free == entry && (err != api.OK || s.Size() != head+entry) {
			t.Errorf("%d bytes free: Put = %d, Size = %d", free, err, s.Size())
		}
	}
}

// P16.3: the log has own records alone, by rising numbers, and goes on behind them.
func TestCompact(t *testing.T) {
	d, s := made(t)
	ok(t, s.Compact())
	logIs(t, d, bytesOf(t, 7))
	put(t, s, fileOf("a", 4096))
	b := put(t, s, dirOf("b"))
	put(t, s, fileOf("a", 17))
	a := put(t, s, dirOf("a"))
	ok(t, s.Index().Told(2, []api.Record{dirOf("told")}, true))
	size := s.Size()
	ok(t, s.Compact())
	log := bytesOf(t, 7, b, a)
	logIs(t, d, log)
	if n, _ := d.Read("x1/log"); n.Time != 0 || d.Pending() != 0 || s.Size() != len(log) || s.Size() >= size {
		t.Errorf("Time = %d, Pending = %d, Size = %d, not %d, below %d", n.Time, d.Pending(), s.Size(), len(log), size)
	}
	says(t, s, 7, 4, b, a)
	ok(t, d.Crash(nil))
	says(t, opened(t, d, "x1", 1, 9), 7, 4, b, a)
	c := put(t, s, dirOf("c"))
	logIs(t, d, bytesOf(t, 7, b, a, c))
	says(t, s, 7, 5, b, a, c)
	ok(t, s.Compact())
	ok(t, s.Compact())
	logIs(t, d, bytesOf(t, 7, b, a, c))
	if !allAlike(s.Index().Of(2), []api.Record{dirOf("told")}) {
		t.Errorf("what was told is %v", s.Index().Of(2))
	}
}

// P16.3: an error leaves the log, and what the store says, as it was.
func TestCompactErrors(t *testing.T) {
	breaks := map[api.Errno]func(d *disk.Disk){
		api.ErrFull: func(d *disk.Disk) { ok(t, d.Write("fill", strings.Repeat("x", d.Room()-d.Used()-64-83), 0)) },
		api.ErrDir:  func(d *disk.Disk) { ok(t, d.Mkdir("x1/new")) },
		api.ErrKind: func(d *disk.Disk) { ok(t, d.Link("x1/new", "x", 0)) },
	}
	for want, lay := range breaks {
		d, s := made(t)
		put(t, s, aDir())
		last := put(t, s, aDir())
		lay(d)
		before := told(d)
		if err := s.Compact(); err != want || told(d) != before {
			t.Errorf("Compact = %d, not %d; the disk is %s, not %s", err, want, told(d), before)
		}
		says(t, s, 7, 2, last)
		d.Remove("fill")
		d.Remove("x1/new")
		more := put(t, s, dirOf("b"))
		logIs(t, d, bytesOf(t, 7, numbered(aDir(), 1), last, more))
		ok(t, s.Compact())
		logIs(t, d, bytesOf(t, 7, last, more))
	}
	d, s := made(t)
	put(t, s, aDir())
	last := put(t, s, aDir())
	ok(t, d.Rename("x1/log", "x1/aside"))
	ok(t, d.Mkdir("x1/log"))
	if err := s.Compact(); err != api.ErrDir {
		t.Errorf("Compact with a directory at log = %d", err)
	}
	says(t, s, 7, 2, last)
	ok(t, d.Remove("x1/new"))
	ok(t, d.Remove("x1/log"))
	ok(t, d.Rename("x1/aside", "x1/log"))
	more := put(t, s, dirOf("b"))
	logIs(t, d, bytesOf(t, 7, numbered(aDir(), 1), last, more))
	ok(t, s.Compact())
	logIs(t, d, bytesOf(t, 7, last, more))
}

// P16.3: it is written, made to last, renamed, made to last: wherever the power goes, the log is the one or the other.
func TestCompactPower(t *testing.T) {
	for n := range 5 {
		for _, pick := range []byte{0, 1, 2, 20, 255} {
			d, s := made(t)
			put(t, s, aDir())
			last := put(t, s, aDir())
			ok(t, s.Sync())
			old, anew := bytesOf(t, 7, numbered(aDir(), 1), last), bytesOf(t, 7, last)
			ok(t, d.Fuse(n))
			if err := s.Compact(); n < 4 && err != api.ErrClosed || n == 4 && err != api.OK {
				t.Errorf("a fuse of %d: Compact = %d", n, err)
			}
			ok(t, d.Crash([]byte{pick}))
			_, err := d.Read("x1/new")
			if there := n == 1 && pick > 0 || n == 2 || n == 3 && pick == 0; there != (err == api.OK) {
				t.Errorf("a fuse of %d, the pick %d: new is %d", n, pick, err)
			}
			says(t, opened(t, d, "x1", 1, 9), 7, 2, last)
			if n == 4 || n == 3 && pick != 0 {
				logIs(t, d, anew)
			} else {
				logIs(t, d, old)
			}
		}
	}
}

// P16.3: Sync is the disk's.
func TestSync(t *testing.T) {
	d, s := made(t)
	last := put(t, s, aDir())
	ok(t, d.Write("other", "", 1))
	ok(t, s.Sync())
	if d.Pending() != 0 {
		t.Errorf("Pending = %d", d.Pending())
	}
	ok(t, d.Crash(nil))
	says(t, opened(t, d, "x1", 1, 9), 7, 1, last)
	if _, err := d.Read("other"); err != api.OK {
		t.Errorf("Read(other) = %d", err)
	}
	ok(t, d.Fuse(1))
	ok(t, s.Sync())
	if err := s.Sync(); err != api.ErrClosed {
		t.Errorf("Sync without power = %d", err)
	}
	if err := s.Compact(); err != api.ErrClosed {
		t.Errorf("Compact without power = %d", err)
	}
}

// P16.4: the index is the store's own one, the id its log's, the size that of the file.
func TestLooks(t *testing.T) {
	d, s := made(t)
	x := s.Index()
	put(t, s, aDir())
	ok(t, x.Told(2, []api.Record{fileOf("a", 3)}, false))
	if s.Index() != x || len(x.Needs()) != 1 || x.Last() != 1 {
		t.Errorf("Needs = %v, Last = %d", x.Needs(), x.Last())
	}
	r, _ := x.Global("a")
	put(t, s, r)
	ok(t, s.Compact())
	if s.Index() != x || len(x.Needs()) != 0 || !slices.Equal(x.Holders("a"), []int{1, 2}) {
		t.Errorf("Needs = %v, Holders = %v", x.Needs(), x.Holders("a"))
	}
	s = opened(t, d, "x1", 1, 9)
	if s.Index() == x || len(s.Index().Of(2)) != 0 || len(s.Index().Of(1)) != 2 {
		t.Errorf("behind Open: %v, %v", s.Index().Of(1), s.Index().Of(2))
	}
	ok(t, d.Append("x1/log", "abc"))
	if want := len(bytesOf(t, 7, numbered(aDir(), 1), numbered(r, 2))) + 3; s.Size() != want || s.ID() != 7 {
		t.Errorf("Size = %d, not %d; ID = %d", s.Size(), want, s.ID())
	}
	ok(t, d.Remove("x1/log"))
	if s.Size() != 0 {
		t.Errorf("Size without a log = %d", s.Size())
	}
}

// R3: a nil store, and one that Open did not make.
func TestNone(t *testing.T) {
	for _, s := range []*store.Store{nil, {}, new(store.Store)} {
		if r, err := s.Put(aDir()); err != api.ErrNil || !alike(r, api.Record{}) {
			t.Errorf("Put = %v, %d", r, err)
		}
		if r, err := s.Put(api.Record{}); err != api.ErrNil || !alike(r, api.Record{}) {
			t.Errorf("Put of nothing = %v, %d", r, err)
		}
		if s.Compact() != api.ErrNil || s.Sync() != api.ErrNil {
			t.Errorf("Compact = %d, Sync = %d", s.Compact(), s.Sync())
		}
		if s.Index() != nil || s.ID() != 0 || s.Size() != 0 {
			t.Errorf("Index = %v, ID = %d, Size = %d", s.Index(), s.ID(), s.Size())
		}
	}
}

// R4: records share no memory with what is handed in, or answered.
func TestApart(t *testing.T) {
	d, s := made(t)
	r := fileOf("a", 64)
	want := fileOf("a", 64)
	got := put(t, s, r)
	clear(r.Blocks)
	clear(got.Blocks)
	clear(s.Index().Since(0)[0].Blocks)
	says(t, s, 7, 1, numbered(want, 1))
	ok(t, s.Compact())
	ok(t, d.Fuse(0))
	if _, err := s.Put(dirOf("b")); err != api.ErrClosed {
		t.Errorf("Put without power = %d", err)
	}
	clear(s.Index().Since(0)[0].Blocks)
	says(t, s, 7, 1, numbered(want, 1))
	says(t, opened(t, d, "x1", 1, 9), 7, 1, numbered(want, 1))
}

// Two stores in two directories of a disk do not know of each other.
func TestTwo(t *testing.T) {
	d, s := made(t)
	other := opened(t, d, "x2", 2, 8)
	a, b := put(t, s, dirOf("a")), put(t, other, dirOf("b"))
	ok(t, s.Compact())
	says(t, s, 7, 1, a)
	says(t, other, 8, 1, b)
	says(t, opened(t, d, "x1", 1, 9), 7, 1, a)
	says(t, opened(t, d, "x2", 2, 9), 8, 1, b)
}

// life is a store that calls are done to, and what it said behind each Put that was OK.
type life struct {
	d    *disk.Disk
	s    *store.Store
	said []state
	safe int // from this one on: behind it all lasted
}

func begin(t *testing.T) *life {
	t.Helper()
	d, s := made(t)
	return &life{d, s, []state{stateOf(s)}, 0}
}

// do does a call: S (Sync), C (Compact), or the path that is put.
func (x *life) do(call byte, time int) {
	switch call {
	case 'S':
		if x.s.Sync() == api.OK {
			x.safe = len(x.said) - 1
		}
	case 'C':
		if x.s.Compact() == api.OK {
			x.safe = len(x.said) - 1
		}
	default:
		r := at(dirOf(string(call)), int64(time))
		if time%3 == 0 {
			r = at(fileOf(string(call), time), int64(time))
		}
		if _, err := x.s.Put(r); err == api.OK {
			x.said = append(x.said, stateOf(x.s))
		}
	}
}

// crash opens the store anew behind one, and holds it against what it said: the place of that.
func (x *life) crash(t *testing.T, picks []byte) int {
	t.Helper()
	ok(t, x.d.Crash(picks))
	x.s = opened(t, x.d, "x1", 1, 9)
	now := stateOf(x.s)
	for i := x.safe; i < len(x.said); i++ {
		if now.is(x.said[i]) {
			return i
		}
	}
	t.Fatalf("picks %v: the store says %v, which it never did from %d on of %v", picks, now, x.safe, x.said)
	return 0
}

// P16.5: wherever the power goes, and whatever a crash keeps.
func TestCrash(t *testing.T) {
	for _, calls := range []string{"abca", "aSab", "abCab", "aCbSaCb", "abSCaa", "aCC", "CabaSc"} {
		for fuse := range 14 {
			for picks := range 1 << 10 { // five picks of four kinds
				x := begin(t)
				ok(t, x.d.Fuse(fuse))
				for i := range len(calls) {
					x.do(calls[i], i+1)
				}
				var l []byte
				for n := picks; n > 0; n /= 4 {
					l = append(l, []byte{0, 1, 25, 255}[n%4])
				}
				x.crash(t, l)
			}
			if t.Failed() {
				t.Fatalf("calls %s, a fuse of %d", calls, fuse)
			}
		}
	}
}

// P16.5: all that was put is there, if all of it is kept.
func TestCrashKeepsAll(t *testing.T) {
	x := begin(t)
	for i, call := range []byte("abcdCabe") {
		x.do(call, i+1)
	}
	if i := x.crash(t, slices.Repeat([]byte{1}, 20)); i != len(x.said)-1 {
		t.Errorf("the store is as it was behind %d Puts of %d", i, len(x.said)-1)
	}
}

// P16.5: an entry that was cut takes those behind it with it, wherever it was cut.
func TestCrashCuts(t *testing.T) {
	size := len(bytesOf(t, 7, numbered(aDir(), 1))) - head
	for which := range 3 {
		for most := range size {
			x := begin(t)
			for i := range 3 {
				x.do("abc"[i], 10*(i+1)+1)
			}
			picks := []byte{1, 1, 1}
			picks[which] = byte(2 + most)
			if i := x.crash(t, picks); i != which {
				t.Errorf("entry %d cut to %d bytes: the store is as it was behind %d Puts", which, most, i)
			}
		}
	}
}

// P16.5: any calls, crashes and cuts one behind the other, the power going anywhere.
func TestAnyCrashes(t *testing.T) {
	random := rand.New(rand.NewSource(16))
	for range 300 {
		x := begin(t)
		for range 1 + random.Intn(6) {
			if random.Intn(3) > 0 {
				ok(t, x.d.Fuse(random.Intn(12)))
			}
			for range random.Intn(12) {
				x.do("abcdefSCabc"[random.Intn(11)], 1+random.Intn(400))
			}
			picks := make([]byte, random.Intn(14))
			for i := range picks {
				picks[i] = byte(random.Intn(2))
				if random.Intn(4) == 0 {
					picks[i] = byte(random.Intn(256))
				}
			}
			i := x.crash(t, picks)
			// What was lost is lost for good, and so is lasting now what is there.
			x.said, x.safe = x.said[:i+1], i
		}
	}
}

// P16.5: the power goes while a torn log is opened, again and again.
func TestCrashWhileOpened(t *testing.T) {
	for fuse := range 4 {
		for again := range 5 {
			for _, pick := range []byte{0, 1, 2, 30, 255} {
				l := []api.Record{numbered(dirOf("a"), 1), numbered(dirOf("b"), 2), numbered(at(dirOf("a"), 3), 3)}
				d := withLog(t, bytesOf(t, 7, l...)+"\xff\x00\x00")
				for _, n := range []int{fuse, again} {
					ok(t, d.Fuse(n))
					store.Open(d, "x1", 1, 9)
					ok(t, d.Crash([]byte{pick, pick, pick}))
				}
				says(t, opened(t, d, "x1", 1, 11), 7, 3, l[1], l[2])
				if n, err := d.Read("x1/new"); err != api.ErrNone {
					t.Errorf("fuses %d, %d, the pick %d: there is new: %v, %d", fuse, again, pick, n, err)
				}
			}
		}
	}
}

// P16.5: the power goes while a store is opened first: it is there behind it, or another one without records.
func TestCrashWhileMade(t *testing.T) {
	for fuse := range 6 {
		for picks := range 1 << 4 {
			d := newDisk(t, room)
			ok(t, d.Fuse(fuse))
			_, err := store.Open(d, "x1", 1, 7)
			ok(t, d.Crash([]byte{byte(picks % 4), byte(picks / 4)}))
			s := opened(t, d, "x1", 1, 9)
			if id := s.ID(); err == api.OK && id != 7 || id != 7 && id != 9 {
				t.Errorf("a fuse of %d: Open = %d, ID = %d", fuse, err, id)
			}
			says(t, s, s.ID(), 0)
		}
	}
}

// P16.6: what is opened again, and again, says the same, and goes on from there.
func TestOpenedTwice(t *testing.T) {
	random := rand.New(rand.NewSource(17))
	for range 200 {
		x := begin(t)
		for range random.Intn(20) {
			x.do("abcdefSC"[random.Intn(8)], 1+random.Intn(400))
		}
		if random.Intn(2) == 0 {
			ok(t, x.d.Append("x1/log", "\xff torn"))
		}
		want := stateOf(x.s)
		once := stateOf(opened(t, x.d, "x1", 1, 9))
		disk := told(x.d)
		s := opened(t, x.d, "x1", 1, 11)
		if !once.is(want) || !stateOf(s).is(want) || told(x.d) != disk {
			t.Fatalf("%v was opened as %v, then as %v", want, once, stateOf(s))
		}
		r := put(t, s, dirOf("z"))
		want.own, want.last = append(want.own, r), r.Seq
		if got := stateOf(opened(t, x.d, "x1", 1, 12)); !got.is(want) {
			t.Fatalf("%v was opened as %v", want, got)
		}
	}
}
