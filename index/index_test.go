package index_test

import (
	"math"
	"math/rand"
	"slices"
	"strconv"
	"strings"
	"testing"

	"caravan/api"
	"caravan/block"
	"caravan/index"
	"caravan/record"
)

const maxSeq = 1 << 62

// noDevices are none, some of which would be one if they were cut to fewer bits.
var noDevices = []int{0, -1, 17, 18, 32, 33, 256, 257, 65537, -15, math.MinInt, math.MaxInt, math.MinInt + 1, 1<<32 + 1}

// somePaths stand in the order of paths.
var somePaths = []string{"a", "a/b", "a/b/c", "a/z", "a b", "a-c", "aa", "b", "b/a", "c", "\xff"}

func dirOf(p string, dev int, counter uint32) api.Record {
	r := api.Record{Path: p, Kind: api.KDir, By: dev}
	r.Vector[dev-1] = counter
	return r
}

func fileOf(p string, size int, dev int, counter uint32) api.Record {
	r := dirOf(p, dev, counter)
	r.Kind, r.Size, r.BlockSize = api.KFile, size, block.Size(size)
	for i := range block.Count(size) {
		r.Blocks = append(r.Blocks, api.Hash{byte(i), byte(size)})
	}
	return r
}

func linkOf(p, target string, dev int, counter uint32) api.Record {
	r := dirOf(p, dev, counter)
	r.Kind, r.Target = api.KLink, target
	return r
}

func gone(r api.Record) api.Record {
	r.Deleted, r.Size, r.BlockSize, r.Blocks, r.Target = true, 0, 0, nil, ""
	return r
}

func flagged(r api.Record, flags int) api.Record {
	r.Flags = flags
	return r
}

func numbered(r api.Record, seq int64) api.Record {
	r.Seq = seq
	return r
}

// with answers r changed by change.
func with(r api.Record, change func(r *api.Record)) api.Record {
	r.Blocks = slices.Clone(r.Blocks)
	change(&r)
	return r
}

// many are records of so many different paths.
func many(n, dev int) []api.Record {
	var l []api.Record
	for i := range n {
		l = append(l, numbered(dirOf("p"+strconv.Itoa(i), dev, 1), int64(i+1)))
	}
	return l
}

// noRecords are such as may not be, and what is wrong with them.
func noRecords() map[api.Errno][]api.Record {
	return map[api.Errno][]api.Record{
		api.ErrPath: {{}, dirOf("a//b", 1, 1), dirOf("", 1, 1), with(dirOf("/", 1, 1), func(r *api.Record) { r.Kind = 9 })},
		api.ErrKind: {with(dirOf("a", 1, 1), func(r *api.Record) { r.Kind = 0 }), with(dirOf("n", 1, 1), func(r *api.Record) { r.Kind, r.By = 4, 0 })},
		api.ErrArg: {
			dirOf("a", 1, 0), with(dirOf("n", 1, 1), func(r *api.Record) { r.By = 17 }), numbered(dirOf("a", 1, 1), -1),
			numbered(dirOf("a", 1, 1), maxSeq+1), flagged(dirOf("a", 1, 1), 8), with(dirOf("n", 1, 1), func(r *api.Record) { r.Time = 1 << 32; r.Size = 1 }),
		},
		api.ErrForm: {with(dirOf("a", 1, 1), func(r *api.Record) { r.Size = 1 }), linkOf("n", "", 1, 1), with(fileOf("a", 16, 1, 1), func(r *api.Record) { r.Size = 17 })},
	}
}

func alike(a, b api.Record) bool { return record.Same(a, b) && a.Seq == b.Seq }

func allAlike(a, b []api.Record) bool { return slices.EqualFunc(a, b, alike) }

func newIndex(t *testing.T, self int) *index.Index {
	t.Helper()
	x, err := index.New(self)
	if x == nil || err != api.OK {
		t.Fatalf("New(%d) = %v, %d", self, x, err)
	}
	return x
}

func own(t *testing.T, x *index.Index, r api.Record) api.Record {
	t.Helper()
	last := x.Last()
	got, err := x.Own(r)
	if err != api.OK || !alike(got, numbered(r, last+1)) || x.Last() != last+1 {
		t.Fatalf("Own(%v) = %v, %d; Last is %d, and was %d", r, got, err, x.Last(), last)
	}
	return got
}

func told(t *testing.T, x *index.Index, dev int, all bool, l ...api.Record) {
	t.Helper()
	if err := x.Told(dev, l, all); err != api.OK {
		t.Fatalf("Told(%d, %d records, %v) = %d", dev, len(l), all, err)
	}
}

func restored(t *testing.T, x *index.Index, last int64, l ...api.Record) {
	t.Helper()
	if err := x.Restore(l, last); err != api.OK {
		t.Fatalf("Restore(%d records, %d) = %d", len(l), last, err)
	}
}

func isGlobal(t *testing.T, x *index.Index, want api.Record, holders ...int) {
	t.Helper()
	g, ok := x.Global(want.Path)
	if !ok || !alike(g, want) {
		t.Errorf("Global(%s) = %v, %v, not %v", want.Path, g, ok, want)
	}
	if l := x.Holders(want.Path); !slices.Equal(l, holders) {
		t.Errorf("Holders(%s) = %v, not %v", want.Path, l, holders)
	}
}

func isNoGlobal(t *testing.T, x *index.Index, p string) {
	t.Helper()
	if g, ok := x.Global(p); ok || !alike(g, api.Record{}) || g.Blocks != nil {
		t.Errorf("Global(%s) = %v, %v", p, g, ok)
	}
	if l := x.Holders(p); len(l) != 0 {
		t.Errorf("Holders(%s) = %v", p, l)
	}
}

func needs(t *testing.T, x *index.Index, want ...api.Record) {
	t.Helper()
	if l := x.Needs(); !allAlike(l, want) {
		t.Errorf("Needs = %v, not %v", l, want)
	}
}

func lists(t *testing.T, what string, got []api.Record, want ...api.Record) {
	t.Helper()
	if !allAlike(got, want) {
		t.Errorf("%s = %v, not %v", what, got, want)
	}
}

// model is the chapter's words, its records one behind the other.
type model struct {
	self  int
	last  int64
	known [api.MaxDevices + 1][]api.Record
}

// taken is a record in the place of one of its path, or behind all.
func taken(l []api.Record, r api.Record) []api.Record {
	l = slices.DeleteFunc(slices.Clone(l), func(x api.Record) bool { return x.Path == r.Path })
	return append(l, r)
}

func (m *model) own(r api.Record) {
	m.last++
	m.known[m.self] = taken(m.known[m.self], numbered(r, m.last))
}

func (m *model) told(dev int, l []api.Record, all bool) {
	if all {
		m.known[dev] = nil
	}
	for _, r := range l {
		m.known[dev] = taken(m.known[dev], r)
	}
}

func (m *model) get(dev int, p string) (api.Record, bool) {
	if dev >= 1 && dev <= 16 {
		for _, r := range m.known[dev] {
			if r.Path == p {
				return r, true
			}
		}
	}
	return api.Record{}, false
}

// inOrder are records of different paths in the order of these, in which a / is ahead of all that names have.
func inOrder(l []api.Record) []api.Record {
	l = slices.Clone(l)
	slices.SortFunc(l, func(a, b api.Record) int {
		return strings.Compare(strings.ReplaceAll(a.Path, "/", "\x00"), strings.ReplaceAll(b.Path, "/", "\x00"))
	})
	return l
}

func (m *model) paths() []string {
	var all []api.Record
	for _, l := range m.known {
		for _, r := range l {
			all = taken(all, r)
		}
	}
	var paths []string
	for _, r := range inOrder(all) {
		paths = append(paths, r.Path)
	}
	return paths
}

func (m *model) global(p string) (g api.Record, ok bool) {
	for dev := range m.known {
		if r, has := m.get(dev, p); has && r.Flags == 0 && (!ok || record.Cmp(r, g) == 1) {
			g, ok = r, true
		}
	}
	return g, ok
}

func version(a, b api.Record) bool { return a.Vector == b.Vector && a.Deleted == b.Deleted }

func (m *model) holders(p string) (l []int) {
	g, ok := m.global(p)
	for dev := range m.known {
		if r, has := m.get(dev, p); ok && has && r.Flags == 0 && version(r, g) {
			l = append(l, dev)
		}
	}
	return l
}

func dominates(a, b api.Vector) bool {
	for i := range a {
		if a[i] < b[i] {
			return false
		}
	}
	return a != b
}

func (m *model) needed(p string) bool {
	g, ok := m.global(p)
	if !ok {
		return false
	}
	r, has := m.get(m.self, p)
	if !has {
		return !g.Deleted
	}
	above := r.Flags&api.FlagLocal != 0 && dominates(r.Vector, g.Vector)
	return r.Flags&api.FlagIgnored == 0 && !version(r, g) && !above
}

func (m *model) since(seq int64) (l []api.Record) {
	for _, r := range m.known[m.self] {
		if r.Seq > seq {
			l = append(l, r)
		}
	}
	return l
}

// is holds all looks at an index against the model.
func is(t *testing.T, x *index.Index, m *model) {
	t.Helper()
	if x.Last() != m.last {
		t.Fatalf("Last = %d, not %d", x.Last(), m.last)
	}
	for dev := range m.known {
		lists(t, "Of("+strconv.Itoa(dev)+")", x.Of(dev), inOrder(m.known[dev])...)
	}
	for _, seq := range []int64{math.MinInt64, -1, 0, 1, m.last / 2, m.last - 1, m.last, m.last + 1, math.MaxInt64} {
		lists(t, "Since("+strconv.FormatInt(seq, 10)+")", x.Since(seq), m.since(seq)...)
	}
	paths := m.paths()
	if l := x.Paths(); !slices.Equal(l, paths) {
		t.Fatalf("Paths = %q, not %q", l, paths)
	}
	var needed []api.Record
	for _, p := range append(paths, "none", "", "a//b") {
		for dev := range m.known {
			r, ok := x.Get(dev, p)
			if want, has := m.get(dev, p); ok != has || !alike(r, want) {
				t.Fatalf("Get(%d, %s) = %v, %v, not %v, %v", dev, p, r, ok, want, has)
			}
		}
		g, ok := m.global(p)
		if ok {
			isGlobal(t, x, g, m.holders(p)...)
		} else {
			isNoGlobal(t, x, p)
		}
		if m.needed(p) {
			needed = append(needed, g)
		}
	}
	needs(t, x, needed...)
	if t.Failed() {
		t.FailNow()
	}
}

// near answers a record of few paths that is unlike others in few things, so that versions, and all that tells who wins, are alike often.
func near(r *rand.Rand) api.Record {
	p, dev := somePaths[r.Intn(len(somePaths))], 1+r.Intn(3)
	var x api.Record
	switch r.Intn(4) {
	case 0:
		x = dirOf(p, dev, uint32(1+r.Intn(2)))
	case 1:
		x = linkOf(p, []string{"t", "u"}[r.Intn(2)], dev, uint32(1+r.Intn(2)))
	case 2:
		x = fileOf(p, []int{0, 16, 17, 32}[r.Intn(4)], dev, uint32(1+r.Intn(2)))
	default:
		x = gone(dirOf(p, dev, uint32(1+r.Intn(2))))
	}
	x.Vector[r.Intn(3)] = uint32(1 + r.Intn(2))
	x.Time, x.Seq, x.By = int64(r.Intn(2)), int64(r.Intn(9)), 1+r.Intn(16)
	if r.Intn(3) == 0 {
		x.Flags = r.Intn(8)
	}
	return x
}

func nears(r *rand.Rand, most int) []api.Record {
	var l []api.Record
	for range r.Intn(most + 1) {
		l = append(l, near(r))
	}
	return l
}

// The chapter's examples.
func TestExamples(t *testing.T) {
	a, b := dirOf("a", 1, 7), dirOf("a", 2, 8)
	x := newIndex(t, 1)
	if r, err := x.Own(a); err != api.OK || !alike(r, numbered(a, 1)) || x.Last() != 1 {
		t.Errorf("Own(A) = %v, %d; Last = %d", r, err, x.Last())
	}
	told(t, x, 2, false, b)
	isGlobal(t, x, b, 2)
	needs(t, x, b)
	if r, err := x.Own(b); err != api.OK || !alike(r, numbered(b, 2)) {
		t.Errorf("Own(B) = %v, %d", r, err)
	}
	needs(t, x)
	isGlobal(t, x, numbered(b, 2), 1, 2)
	lists(t, "Since(1)", x.Since(1), numbered(b, 2))
	lists(t, "Since(2)", x.Since(2))
	lists(t, "Of(2)", x.Of(2), b)
	told(t, x, 2, true)
	lists(t, "Of(2)", x.Of(2))
	isGlobal(t, x, numbered(b, 2), 1)
	if x.Told(1, nil, true) != api.ErrArg || x.Told(17, nil, true) != api.ErrArg || x.Forget(0) != api.ErrArg {
		t.Error("no ErrArg")
	}
	told(t, x, 2, true, flagged(b, api.FlagLocal))
	isGlobal(t, x, numbered(b, 2), 1)
	if err := x.Restore([]api.Record{numbered(b, 3)}, 2); err != api.ErrForm {
		t.Errorf("Restore(B, 2) = %d", err)
	}
	restored(t, x, 5, numbered(b, 3))
	if x.Last() != 5 {
		t.Errorf("Last = %d", x.Last())
	}
	if r := own(t, x, a); r.Seq != 6 {
		t.Errorf("Own(A) has the number %d", r.Seq)
	}
}

// P15.1: an index of each device, without records; none of what is no device.
func TestNew(t *testing.T) {
	for self := 1; self <= api.MaxDevices; self++ {
		x := newIndex(t, self)
		is(t, x, &model{self: self})
		own(t, x, dirOf("a", 1, 1))
		is(t, newIndex(t, self), &model{self: self}) // whatever was done with others
	}
	for _, self := range noDevices {
		if x, err := index.New(self); x != nil || err != api.ErrArg {
			t.Errorf("New(%d) = %v, %d", self, x, err)
		}
	}
}

// P15.1: all other calls of an index that is nil, or that New did not make.
func TestNoIndex(t *testing.T) {
	none, _ := index.New(0)
	for what, x := range map[string]*index.Index{"nil": nil, "of no device": none, "not made": {}, "not made, too": new(index.Index)} {
		for range 2 {
			for _, r := range []api.Record{dirOf("a", 1, 1), {}} {
				if got, err := x.Own(r); !alike(got, api.Record{}) || err != api.ErrNil {
					t.Errorf("%s: Own = %v, %d", what, got, err)
				}
				if err := x.Restore([]api.Record{r}, -1); err != api.ErrNil {
					t.Errorf("%s: Restore = %d", what, err)
				}
			}
			if err := x.Restore(nil, 0); err != api.ErrNil {
				t.Errorf("%s: Restore of none = %d", what, err)
			}
			for _, dev := range []int{-1, 0, 1, 2, 16, 17} {
				if x.Told(dev, []api.Record{dirOf("a", 1, 1)}, false) != api.ErrNil || x.Told(dev, nil, true) != api.ErrNil || x.Forget(dev) != api.ErrNil {
					t.Errorf("%s: no ErrNil of the device %d", what, dev)
				}
				if r, ok := x.Get(dev, "a"); ok || !alike(r, api.Record{}) || len(x.Of(dev)) != 0 {
					t.Errorf("%s: Get = %v, %v", what, r, ok)
				}
			}
			if len(x.Since(-1)) != 0 || x.Last() != 0 || len(x.Paths()) != 0 || len(x.Needs()) != 0 || x.Copy() != nil {
				t.Errorf("%s: it has something", what)
			}
			isNoGlobal(t, x, "a")
		}
	}
}

// P15.2: each own record gets the next number, and takes the place of the one of its path.
func TestOwn(t *testing.T) {
	for _, self := range []int{1, 2, 16} {
		x, m := newIndex(t, self), &model{self: self}
		for i, r := range []api.Record{
			dirOf("b", 1, 1), dirOf("a", 16, math.MaxUint32), numbered(dirOf("b", 2, 1), 99), numbered(dirOf("b", 2, 1), maxSeq),
			fileOf("b", 4096, 1, 1), linkOf("a/b", "t", 1, 1), gone(dirOf("b", 3, 3)), flagged(dirOf("a", 1, 1), 7), dirOf("b", 1, 1),
		} {
			got := own(t, x, r)
			m.own(r)
			if got.Seq != int64(i+1) {
				t.Errorf("the record %d has the number %d", i, got.Seq)
			}
			is(t, x, m)
		}
	}
}

// P15.2: what may not be is no own record, and takes no number.
func TestOwnErrors(t *testing.T) {
	x, m := newIndex(t, 3), &model{self: 3}
	for range 2 {
		for want, l := range noRecords() {
			for _, r := range l {
				if got, err := x.Own(r); !alike(got, api.Record{}) || err != want {
					t.Errorf("Own(%v) = %v, %d, not %d", r, got, err, want)
				}
			}
		}
		is(t, x, m)
		own(t, x, dirOf("a", 1, 1))
		m.own(dirOf("a", 1, 1))
	}
}

// P15.2: of 256 paths there may be own records, and of these again and again; whatever others have.
func TestOwnFull(t *testing.T) {
	x, m := newIndex(t, 3), &model{self: 3}
	told(t, x, 4, false, dirOf("more", 1, 1))
	m.told(4, []api.Record{dirOf("more", 1, 1)}, false)
	for _, r := range many(api.MaxRecords, 1) {
		own(t, x, r)
		m.own(r)
	}
	for range 2 {
		if r, err := x.Own(dirOf("more", 1, 1)); !alike(r, api.Record{}) || err != api.ErrFull {
			t.Errorf("Own = %v, %d", r, err)
		}
		if _, err := x.Own(dirOf("a//b", 1, 1)); err != api.ErrPath {
			t.Errorf("Own of no path = %d", err)
		}
		is(t, x, m)
		for _, p := range []string{"p0", "p255"} {
			own(t, x, gone(dirOf(p, 2, 2)))
			m.own(gone(dirOf(p, 2, 2)))
		}
	}
	restored(t, x, maxSeq, many(api.MaxRecords, 1)...)
	if _, err := x.Own(dirOf("more", 1, 1)); err != api.ErrFull {
		t.Errorf("with no number left, too: Own = %d", err)
	}
	if _, err := x.Own(dirOf("p0", 1, 0)); err != api.ErrArg {
		t.Errorf("Own of what may not be = %d", err)
	}
	if _, err := x.Own(dirOf("p0", 1, 1)); err != api.ErrArg {
		t.Errorf("with no number left: Own = %d", err)
	}
}

// P15.2: the greatest number is 2^62.
func TestOwnLast(t *testing.T) {
	x := newIndex(t, 1)
	restored(t, x, maxSeq-2)
	for _, p := range []string{"a", "b"} {
		own(t, x, dirOf(p, 1, 1))
	}
	m := &model{self: 1, last: maxSeq}
	m.told(1, []api.Record{numbered(dirOf("a", 1, 1), maxSeq-1), numbered(dirOf("b", 1, 1), maxSeq)}, true)
	for _, p := range []string{"a", "b", "c"} {
		if r, err := x.Own(dirOf(p, 1, 2)); !alike(r, api.Record{}) || err != api.ErrArg {
			t.Errorf("Own(%s) = %v, %d", p, r, err)
		}
		is(t, x, m)
	}
	if _, err := x.Own(api.Record{}); err != api.ErrPath {
		t.Errorf("Own of no record = %d", err)
	}
	restored(t, x, 0)
	own(t, x, dirOf("a", 1, 1))
	is(t, x, &model{self: 1, last: 1, known: [17][]api.Record{1: {numbered(dirOf("a", 1, 1), 1)}}})
}

// P15.2: Restore puts records in the place of all own ones, and leaves those of others.
func TestRestore(t *testing.T) {
	other := dirOf("o", 2, 1)
	for _, c := range []struct {
		last int64
		l    []api.Record
	}{
		{0, nil},
		{0, []api.Record{}},
		{7, nil},
		{maxSeq, nil},
		{1, []api.Record{numbered(dirOf("a", 1, 1), 1)}},
		{maxSeq, []api.Record{numbered(dirOf("a", 1, 1), maxSeq)}},
		{maxSeq, []api.Record{numbered(dirOf("z", 1, 1), 1), numbered(dirOf("a", 1, 1), 2), numbered(dirOf("m", 1, 1), maxSeq)}},
		{9, []api.Record{numbered(fileOf("z", 700, 1, 1), 3), numbered(flagged(gone(dirOf("a", 1, 1)), 7), 5), numbered(linkOf("m", "t", 1, 1), 9)}},
		{256, many(api.MaxRecords, 2)},
		{1000, many(api.MaxRecords, 2)},
	} {
		for _, self := range []int{1, 3, 16} {
			x, m := newIndex(t, self), &model{self: self, last: c.last}
			own(t, x, dirOf("gone", 1, 1))
			told(t, x, 2, false, other)
			restored(t, x, c.last, c.l...)
			m.told(2, []api.Record{other}, false)
			m.told(self, c.l, true)
			is(t, x, m)
			if c.last < maxSeq && len(c.l) < api.MaxRecords {
				own(t, x, dirOf("next", 1, 1))
				m.own(dirOf("next", 1, 1))
				is(t, x, m)
			}
		}
	}
}

// P15.2: what Own can't have told is not restored.
func TestRestoreErrors(t *testing.T) {
	a, b := dirOf("a", 1, 1), dirOf("b", 1, 1)
	x, m := newIndex(t, 1), &model{self: 1}
	own(t, x, a)
	m.own(a)
	refuses := func(last int64, l ...api.Record) {
		t.Helper()
		if err := x.Restore(l, last); err != api.ErrForm {
			t.Errorf("Restore(%d records, %d) = %d", len(l), last, err)
		}
		is(t, x, m)
	}
	for _, last := range []int64{-1, math.MinInt64, maxSeq + 1, math.MaxInt64} {
		refuses(last)
		refuses(last, numbered(a, 1))
	}
	refuses(0, numbered(a, 1))
	refuses(8, numbered(a, 9))
	refuses(maxSeq-1, numbered(a, maxSeq))
	refuses(8, numbered(a, 0))
	refuses(8, numbered(a, 0), numbered(b, 1))
	refuses(8, numbered(a, 1), numbered(b, 1))
	refuses(8, numbered(a, 2), numbered(b, 1))
	refuses(8, numbered(a, 1), numbered(b, 0))
	refuses(8, numbered(a, 1), numbered(a, 2))
	refuses(8, numbered(a, 1), numbered(b, 2), numbered(gone(a), 3))
	refuses(8, numbered(a, 1), numbered(b, 9))
	refuses(1000, many(api.MaxRecords+1, 1)...)
	refuses(8, numbered(a, -1))
	refuses(math.MaxInt64, numbered(a, maxSeq+1))
	for _, l := range noRecords() {
		for _, r := range l {
			if r.Seq == 0 {
				r.Seq = 2
			}
			refuses(8, r)
			refuses(8, numbered(b, 1), r)
			refuses(8, r, numbered(b, 3))
		}
	}
}

// P15.3: what others tell, in part or all, of each device.
func TestTold(t *testing.T) {
	for self := 1; self <= api.MaxDevices; self++ {
		x, m := newIndex(t, self), &model{self: self}
		for dev := 1; dev <= api.MaxDevices; dev++ {
			if dev == self {
				continue
			}
			for _, c := range []struct {
				all bool
				l   []api.Record
			}{
				{false, nil},
				{false, []api.Record{dirOf("b", dev, 1), fileOf("a", 100, dev, 1)}},
				{false, []api.Record{numbered(gone(dirOf("a", dev, 2)), 5), numbered(linkOf("c", "t", dev, 1), 5), flagged(dirOf("a", dev, 1), 4)}},
				{false, nil},
				{true, []api.Record{dirOf("d", dev, 1), dirOf("d", dev, 2), dirOf("a", dev, 1)}},
				{true, nil},
				{true, []api.Record{dirOf("e", dev, uint32(dev))}},
			} {
				told(t, x, dev, c.all, c.l...)
				m.told(dev, c.l, c.all)
				is(t, x, m)
			}
		}
	}
}

// P15.3: what is no other device's, or may not be, changes nothing.
func TestToldErrors(t *testing.T) {
	a, b := dirOf("a", 1, 1), dirOf("b", 1, 1)
	for _, self := range []int{1, 2, 16} {
		x, m := newIndex(t, self), &model{self: self}
		own(t, x, a)
		m.own(a)
		told(t, x, 3, false, a, b)
		m.told(3, []api.Record{a, b}, false)
		for _, all := range []bool{false, true} {
			refuses := func(dev int, want api.Errno, l ...api.Record) {
				t.Helper()
				if err := x.Told(dev, l, all); err != want {
					t.Errorf("Told(%d, %v, %v) = %d, not %d", dev, l, all, err, want)
				}
				is(t, x, m)
			}
			for _, dev := range append(noDevices, self) {
				refuses(dev, api.ErrArg)
				refuses(dev, api.ErrArg, gone(b))
				refuses(dev, api.ErrArg, api.Record{})
				if err := x.Forget(dev); err != api.ErrArg {
					t.Errorf("Forget(%d) = %d", dev, err)
				}
				is(t, x, m)
			}
			for want, l := range noRecords() {
				for _, r := range l {
					refuses(3, want, r)
					refuses(3, want, gone(a), gone(b), r)
					refuses(3, want, r, gone(a), gone(b))
					for _, other := range noRecords() {
						refuses(3, want, dirOf("c", 1, 1), r, other[0], gone(a))
					}
				}
			}
			refuses(4, api.ErrFull, many(api.MaxRecords+1, 1)...)
			refuses(4, api.ErrKind, append(many(1000, 1), with(a, func(r *api.Record) { r.Kind = 0 }))...)
		}
	}
}

// P15.3: of 256 paths a device may have records, however they are told.
func TestToldFull(t *testing.T) {
	x, m := newIndex(t, 1), &model{self: 1}
	l, more := many(api.MaxRecords, 2), dirOf("more", 2, 1)
	takes := func(all bool, l ...api.Record) {
		t.Helper()
		told(t, x, 2, all, l...)
		m.told(2, l, all)
		is(t, x, m)
	}
	refuses := func(all bool, l ...api.Record) {
		t.Helper()
		if err := x.Told(2, l, all); err != api.ErrFull {
			t.Errorf("Told(%d records, %v) = %d", len(l), all, err)
		}
		is(t, x, m)
	}
	takes(false, l[:255]...)
	refuses(false, more, l[255])
	refuses(false, gone(l[0]), more, l[255], gone(l[1]))
	takes(false, more, gone(more), more)
	refuses(false, l[255])
	takes(false, append(slices.Clone(l[:255]), l[:255]...)...)
	takes(true, append(slices.Clone(l), l...)...)
	refuses(false, more)
	refuses(true, append(slices.Clone(l), more)...)
	refuses(true, append([]api.Record{more}, l...)...)
	takes(false, gone(l[255]))
	takes(true, more)
	takes(false, l[1:]...)
	if err := x.Told(3, l, false); err != api.OK {
		t.Errorf("Told of another device = %d", err)
	}
	own(t, x, more)
}

// P15.3: what is forgotten is one device's alone.
func TestForget(t *testing.T) {
	x, m := newIndex(t, 2), &model{self: 2}
	for dev := 1; dev <= api.MaxDevices; dev++ {
		if dev != 2 {
			told(t, x, dev, false, dirOf("a", dev, 1), dirOf("b", dev, uint32(dev)))
			m.told(dev, []api.Record{dirOf("a", dev, 1), dirOf("b", dev, uint32(dev))}, false)
		}
	}
	own(t, x, dirOf("c", 2, 1))
	m.own(dirOf("c", 2, 1))
	for _, dev := range []int{16, 16, 1, 7} {
		if err := x.Forget(dev); err != api.OK {
			t.Errorf("Forget(%d) = %d", dev, err)
		}
		m.told(dev, nil, true)
		is(t, x, m)
	}
	told(t, x, 7, false, dirOf("d", 7, 1))
	m.told(7, []api.Record{dirOf("d", 7, 1)}, false)
	is(t, x, m)
}

// P15.4: lists by paths have these in their order, however they came; looks of what is not there.
func TestLooks(t *testing.T) {
	r := rand.New(rand.NewSource(4))
	for range 20 {
		x := newIndex(t, 1)
		var theirs []api.Record
		for _, i := range r.Perm(len(somePaths)) {
			own(t, x, dirOf(somePaths[i], 1, 1))
			theirs = append(theirs, dirOf(somePaths[i], 2, 1))
		}
		told(t, x, 2, false, theirs[:6]...)
		told(t, x, 3, true, theirs[4:]...)
		if l := x.Paths(); !slices.Equal(l, somePaths) {
			t.Errorf("Paths = %q", l)
		}
		told(t, x, 2, true, theirs...)
		for i, r := range x.Of(2) {
			if r.Path != somePaths[i] {
				t.Errorf("Of(2) has %q at %d", r.Path, i)
			}
		}
		var since []int64
		for _, r := range x.Since(3) {
			since = append(since, r.Seq)
		}
		if !slices.Equal(since, []int64{4, 5, 6, 7, 8, 9, 10, 11}) {
			t.Errorf("Since(3) has the numbers %v", since)
		}
	}
	x := newIndex(t, 1)
	told(t, x, 2, false, dirOf("a", 2, 1))
	for _, dev := range append(noDevices, 1, 3, 16) {
		if r, ok := x.Get(dev, "a"); ok || !alike(r, api.Record{}) || r.Blocks != nil || len(x.Of(dev)) != 0 {
			t.Errorf("Get(%d) = %v, %v", dev, r, ok)
		}
	}
	for _, p := range []string{"", "b", "A", "a/", "/a", "a/a", "a\x00", strings.Repeat("a", 1000)} {
		if r, ok := x.Get(2, p); ok || !alike(r, api.Record{}) {
			t.Errorf("Get(%q) = %v, %v", p, r, ok)
		}
		isNoGlobal(t, x, p)
	}
}

// P15.5: who wins, of those that count alone.
func TestGlobal(t *testing.T) {
	x := newIndex(t, 5)
	low, high := dirOf("a", 1, 1), dirOf("a", 2, 2)
	for _, c := range []struct {
		own, second, ninth api.Record // those without a path are not there
		want               int        // whose is the global one
		holders            []int
	}{
		{},
		{own: low, want: 5, holders: []int{5}},
		{second: low, want: 2, holders: []int{2}},
		{own: low, second: high, want: 2, holders: []int{2}},
		{own: high, second: low, want: 5, holders: []int{5}},
		{own: low, second: low, ninth: high, want: 9, holders: []int{9}},
		{own: low, second: high, ninth: high, want: 2, holders: []int{2, 9}},
		{own: high, second: high, ninth: high, want: 2, holders: []int{2, 5, 9}},
		{own: high, second: low, ninth: high, want: 5, holders: []int{5, 9}},
		{own: flagged(high, api.FlagLocal), second: low, want: 2, holders: []int{2}},
		{own: flagged(high, api.FlagBad), second: low, ninth: low, want: 2, holders: []int{2, 9}},
		{own: flagged(high, api.FlagIgnored), ninth: low, want: 9, holders: []int{9}},
		{own: low, second: flagged(high, api.FlagLocal), want: 5, holders: []int{5}},
		{own: low, second: flagged(high, api.FlagBad), ninth: high, want: 9, holders: []int{9}},
		{own: low, second: flagged(low, api.FlagIgnored), ninth: flagged(low, 7), want: 5, holders: []int{5}},
		{own: flagged(low, 1), second: flagged(low, 2), ninth: flagged(low, 4)},
		{own: gone(high), second: low, want: 5, holders: []int{5}},
		{own: high, second: gone(high), want: 5, holders: []int{5}}, // not deleted wins, with another version
		{own: gone(high), second: high, ninth: gone(high), want: 2, holders: []int{2}},
		{second: gone(low), ninth: gone(low), want: 2, holders: []int{2, 9}},
		// of one version, but not alike: the winner holds it, and so do those it wins against
		{own: low, second: with(low, func(r *api.Record) { r.Time = 1 }), want: 2, holders: []int{2, 5}},
		{own: linkOf("a", "u", 1, 1), second: linkOf("a", "t", 1, 1), ninth: linkOf("a", "v", 1, 1), want: 9, holders: []int{2, 5, 9}},
		// nobody wins against: who has the least number
		{own: with(low, func(r *api.Record) { r.By = 3 }), second: with(low, func(r *api.Record) { r.By = 1 }), ninth: with(low, func(r *api.Record) { r.By = 7 }), want: 2, holders: []int{2, 5, 9}},
		{own: with(low, func(r *api.Record) { r.By = 3 }), ninth: with(low, func(r *api.Record) { r.By = 2 }), want: 5, holders: []int{5, 9}},
		{second: numbered(low, 9), ninth: numbered(low, 3), want: 2, holders: []int{2, 9}},
	} {
		restored(t, x, 0)
		byDevice := map[int]api.Record{}
		if c.own.Path != "" {
			byDevice[5] = own(t, x, c.own)
		}
		for dev, r := range map[int]api.Record{2: c.second, 9: c.ninth} {
			told(t, x, dev, true)
			if r.Path != "" {
				told(t, x, dev, true, r)
				byDevice[dev] = r
			}
		}
		if c.want == 0 {
			isNoGlobal(t, x, "a")
		} else {
			isGlobal(t, x, byDevice[c.want], c.holders...)
		}
		if t.Failed() {
			t.Fatalf("own %v, of 2 %v, of 9 %v", c.own, c.second, c.ninth)
		}
	}
}

// P15.5: what is needed.
func TestNeeds(t *testing.T) {
	g := dirOf("a", 2, 5)
	above, below, aside := g, dirOf("a", 2, 4), dirOf("a", 1, 4)
	above.Vector[3] = 1
	for _, c := range []struct {
		what   string
		own, g api.Record
		want   bool
	}{
		{"nothing own", api.Record{}, g, true},
		{"nothing own, a deleted one", api.Record{}, gone(g), false},
		{"nothing own, one that does not count", api.Record{}, flagged(g, api.FlagBad), false},
		{"the same one", g, g, false},
		{"another one of its version", with(g, func(r *api.Record) { r.By = 9 }), with(g, func(r *api.Record) { r.Time = 9 }), false},
		{"one of its version with each flag", flagged(g, 7), g, false},
		{"a bad one of its version", flagged(g, api.FlagBad), g, false},
		{"one that it dominates", below, g, true},
		{"one that it wins against", aside, g, true},
		{"one that dominates it", above, g, false},
		{"one that dominates it, bad", flagged(above, api.FlagBad), g, true},
		{"one that dominates it, local", flagged(above, api.FlagLocal), g, false},
		{"one that dominates it, local and bad", flagged(above, api.FlagLocal|api.FlagBad), g, false},
		{"a deleted one that dominates it, local", flagged(gone(above), api.FlagLocal), g, false},
		{"one that it dominates, local", flagged(below, api.FlagLocal), g, true},
		{"one that it wins against, local", flagged(aside, api.FlagLocal), g, true},
		{"one of a greater sum, local", flagged(dirOf("a", 1, 900), api.FlagLocal), g, true},
		{"one of its vector, deleted, local", flagged(gone(g), api.FlagLocal), g, true},
		{"one of its vector, deleted", gone(g), g, true},
		{"one that it dominates, ignored", flagged(below, api.FlagIgnored), g, false},
		{"one that it dominates, ignored and local", flagged(below, api.FlagIgnored|api.FlagLocal), g, false},
		{"one that it dominates, with each flag", flagged(below, 7), g, false},
		{"a deleted one, of one that is deleted", gone(below), gone(g), true},
		{"one that is there, of one that is deleted", below, gone(g), true},
		{"one of its vector that is there, bad, of one that is deleted", flagged(g, api.FlagBad), gone(g), true},
		{"a deleted one of its version", gone(g), gone(g), false},
		{"one that it dominates, none that counts", below, flagged(g, api.FlagLocal), false},
		{"a local one, none that counts", flagged(below, api.FlagLocal), flagged(g, api.FlagLocal), false},
	} {
		x := newIndex(t, 3)
		if c.own.Path != "" {
			own(t, x, c.own)
		}
		told(t, x, 2, false, c.g)
		var want []api.Record
		if c.want {
			want = append(want, c.g)
		}
		if l := x.Needs(); !allAlike(l, want) {
			t.Errorf("own is %s: Needs = %v", c.what, l)
		}
	}
	x := newIndex(t, 3)
	var want []api.Record
	for i, p := range somePaths {
		r := fileOf(p, 100*i, 2, 5)
		told(t, x, []int{1, 2, 16}[i%3], false, r)
		want = append(want, r)
	}
	needs(t, x, want...)
}

// shuffled tells an index what devices have, in any order and any parts, of which the last one of a path is what they have.
func shuffled(t *testing.T, r *rand.Rand, x *index.Index, have map[int][]api.Record) {
	t.Helper()
	var l []int
	for dev := range have {
		for range have[dev] {
			l = append(l, dev)
		}
	}
	slices.Sort(l)
	r.Shuffle(len(l), func(i, j int) { l[i], l[j] = l[j], l[i] })
	at := map[int]int{}
	for _, dev := range l {
		told(t, x, dev, false, have[dev][at[dev]])
		at[dev]++
	}
}

// P15.6: nobody wins against the global one, and it does not hang on the order in which devices told, nor on other paths.
func TestWinner(t *testing.T) {
	r := rand.New(rand.NewSource(6))
	for range 300 {
		have := map[int][]api.Record{}
		for _, dev := range []int{1, 3, 4, 16} {
			have[dev] = nears(r, 12)
		}
		x, y := newIndex(t, 2), newIndex(t, 2)
		shuffled(t, r, x, have)
		for dev, l := range have {
			told(t, y, dev, true, l...)
		}
		for _, p := range somePaths {
			alone := newIndex(t, 2)
			for dev, l := range have {
				told(t, alone, dev, false, slices.DeleteFunc(slices.Clone(l), func(r api.Record) bool { return r.Path != p })...)
			}
			g, ok := x.Global(p)
			for _, other := range []*index.Index{y, alone} {
				if got, has := other.Global(p); has != ok || !alike(got, g) {
					t.Fatalf("told otherwise, Global(%s) = %v, %v, not %v, %v", p, got, has, g, ok)
				}
			}
			for dev := 1; dev <= api.MaxDevices; dev++ {
				if r, has := x.Get(dev, p); has && r.Flags == 0 && (!ok || record.Cmp(r, g) > 0) {
					t.Fatalf("%v wins against the global one of %s", r, p)
				}
			}
		}
	}
}

// P15.7: what is needed, and taken, is needed no more, and nothing else becomes so.
func TestKept(t *testing.T) {
	r := rand.New(rand.NewSource(7))
	for range 300 {
		x := newIndex(t, 2)
		for _, n := range nears(r, 12) {
			own(t, x, n)
		}
		for _, dev := range []int{1, 3, 16} {
			told(t, x, dev, false, nears(r, 12)...)
		}
		same := x.Copy()
		restored(t, same, 0)
		for left := x.Needs(); len(left) > 0; left = x.Needs() {
			i := r.Intn(len(left))
			own(t, x, left[i])
			needs(t, x, slices.Delete(left, i, i+1)...)
		}
		for _, p := range same.Paths() {
			if g, ok := same.Global(p); ok {
				own(t, same, flagged(with(g, func(r *api.Record) { r.By, r.Time = 1+g.By%16, 0 }), r.Intn(8)))
			}
		}
		needs(t, same)
		if t.Failed() {
			t.FailNow()
		}
	}
}

// spoil writes over all that these records share with others.
func spoil(l []api.Record) {
	for i := range l {
		for j := range l[i].Blocks {
			l[i].Blocks[j] = api.Hash{0xee, 0xee}
		}
		_ = append(l[i].Blocks, api.Hash{0xdd})
		l[i] = api.Record{}
	}
}

// P15.8: what is handed in is neither changed nor kept.
func TestHandedIn(t *testing.T) {
	file := func(p string) api.Record { return numbered(fileOf(p, 100, 2, 3), 4) }
	x, m := newIndex(t, 1), &model{self: 1}
	unchanged := func(l []api.Record, call func(l []api.Record)) {
		t.Helper()
		before := slices.Clone(l)
		for i, r := range before {
			before[i].Blocks = slices.Clone(r.Blocks)
		}
		call(l)
		lists(t, "what is handed in", l, before...)
		spoil(l)
		is(t, x, m)
	}
	m.own(file("a"))
	unchanged([]api.Record{file("a")}, func(l []api.Record) { own(t, x, l[0]) })
	m.told(2, []api.Record{file("a"), file("b")}, false)
	unchanged([]api.Record{file("a"), file("b")}, func(l []api.Record) { told(t, x, 2, false, l...) })
	m.told(3, []api.Record{file("c"), file("b")}, true)
	unchanged([]api.Record{file("c"), file("b")}, func(l []api.Record) { told(t, x, 3, true, l...) })
	m.told(1, []api.Record{file("d")}, true)
	m.last = 9
	unchanged([]api.Record{file("d")}, func(l []api.Record) { restored(t, x, 9, l...) })
	shared := file("e")
	m.told(4, []api.Record{file("e"), with(file("f"), func(r *api.Record) {})}, true)
	told(t, x, 4, true, shared, with(shared, func(r *api.Record) { r.Path = "f" }))
	is(t, x, m)
}

// P15.8: what is answered is new memory, each list its own.
func TestAnswered(t *testing.T) {
	x, m := newIndex(t, 1), &model{self: 1}
	one := fileOf("b", 100, 1, 5)
	also := one // shares its blocks
	also.Path = "a"
	l := []api.Record{one, also}
	for _, r := range l {
		m.own(with(r, func(*api.Record) {}))
		got, _ := x.Own(r)
		spoil([]api.Record{got})
		is(t, x, m)
	}
	own(t, x, gone(one))
	m.own(gone(one))
	told(t, x, 2, false, l...)
	m.told(2, []api.Record{fileOf("b", 100, 1, 5), fileOf("a", 100, 1, 5)}, false)
	told(t, x, 3, false, fileOf("c", 100, 1, 5))
	m.told(3, []api.Record{fileOf("c", 100, 1, 5)}, false)
	is(t, x, m)
	look := map[string]func() []api.Record{
		"Of own":   func() []api.Record { return x.Of(1) },
		"Of other": func() []api.Record { return x.Of(2) },
		"Since":    func() []api.Record { return x.Since(0) },
		"Needs":    func() []api.Record { return x.Needs() },
		"Get":      func() []api.Record { r, _ := x.Get(2, "a"); return []api.Record{r} },
		"Get own":  func() []api.Record { r, _ := x.Get(1, "a"); return []api.Record{r} },
		"Global":   func() []api.Record { r, _ := x.Global("a"); return []api.Record{r} },
	}
	for what, call := range look {
		a, b := call(), call()
		if len(a) == 0 || !allAlike(a, b) {
			t.Errorf("%s = %v, and then %v", what, a, b)
		}
		for i := range a {
			rest := slices.Clone(b)
			for j := range rest {
				rest[j].Blocks = slices.Clone(rest[j].Blocks)
			}
			spoil(a[:i+1])
			lists(t, what+" asked twice", b, rest...)
			if i+1 < len(a) {
				lists(t, what+" behind", a[i+1:], rest[i+1:]...)
			}
		}
		is(t, x, m)
	}
	for _, l := range [][]string{x.Paths(), x.Paths()} {
		l[0] = "z"
	}
	for range 2 {
		x.Holders("b")[0] = 9
	}
	is(t, x, m)
}

// P15.4: a copy is the same, and whatever is done with the one, the other one stays.
func TestCopy(t *testing.T) {
	a, b := fileOf("a", 100, 1, 1), dirOf("b", 2, 2)
	fill := func() (*index.Index, *model) {
		x, m := newIndex(t, 7), &model{self: 7}
		own(t, x, a)
		m.own(a)
		for _, dev := range []int{1, 8, 16} {
			told(t, x, dev, false, a, b)
			m.told(dev, []api.Record{a, b}, false)
		}
		return x, m
	}
	for what, change := range map[string]func(x *index.Index){
		"Own":       func(x *index.Index) { own(t, x, gone(a)); own(t, x, b) },
		"Restore":   func(x *index.Index) { restored(t, x, 99, numbered(b, 50)) },
		"Told":      func(x *index.Index) { told(t, x, 8, false, gone(a), dirOf("c", 1, 1)) },
		"Told all":  func(x *index.Index) { told(t, x, 16, true, dirOf("c", 1, 1)) },
		"Forget":    func(x *index.Index) { x.Forget(1) },
		"its looks": func(x *index.Index) { spoil(x.Of(8)); spoil(x.Since(0)) },
	} {
		x, m := fill()
		c := x.Copy()
		is(t, c, m)
		change(c)
		is(t, x, m)
		x, m = fill()
		c = x.Copy()
		change(x)
		is(t, c, m)
		of := c.Copy()
		change(c)
		is(t, of, m)
		if t.Failed() {
			t.Fatal(what)
		}
	}
}

// P15.9: what is told in parts, or twice, is the same as what is told at once.
func TestParts(t *testing.T) {
	r := rand.New(rand.NewSource(9))
	for range 300 {
		l := nears(r, 30)
		m := &model{self: 2}
		m.told(3, l, true)
		at, parts, twice := newIndex(t, 2), newIndex(t, 2), newIndex(t, 2)
		told(t, at, 3, r.Intn(2) == 0, l...)
		is(t, at, m)
		for i := 0; i < len(l); {
			n := min(i+r.Intn(5), len(l))
			told(t, parts, 3, false, l[i:n]...)
			i = n
		}
		is(t, parts, m)
		for range 2 {
			told(t, twice, 3, false, l...)
			is(t, twice, m)
		}
	}
}

// P15.1 to P15.5: any calls, one behind the other, against the model.
func TestAnyCalls(t *testing.T) {
	r := rand.New(rand.NewSource(15))
	for range 60 {
		self := 1 + r.Intn(4)
		x, m := newIndex(t, self), &model{self: self}
		for range 60 {
			dev := r.Intn(6)
			good := dev > 0 && dev != self
			switch r.Intn(8) {
			case 0, 1:
				n := near(r)
				own(t, x, n)
				m.own(n)
			case 2, 3, 4:
				l, all := nears(r, 5), r.Intn(3) == 0
				if err := x.Told(dev, l, all); (err == api.OK) != good {
					t.Fatalf("Told(%d) = %d", dev, err)
				} else if good {
					m.told(dev, l, all)
				}
			case 5:
				if err := x.Forget(dev); (err == api.OK) != good {
					t.Fatalf("Forget(%d) = %d", dev, err)
				} else if good {
					m.told(dev, nil, true)
				}
			case 6:
				l, last := m.since(int64(r.Intn(10))), m.last+int64(r.Intn(3))
				restored(t, x, last, l...)
				m.told(self, l, true)
				m.last = last
			case 7:
				x = x.Copy()
			}
			is(t, x, m)
		}
	}
}
