package scan_test

import (
	"math"
	"math/rand"
	"slices"
	"strconv"
	"strings"
	"testing"

	"caravan/api"
	"caravan/disk"
	"caravan/ignore"
	"caravan/path"
	"caravan/record"
	"caravan/scan"
	"caravan/sha"
	"caravan/vector"
	"caravan/walk"
)

const top = math.MaxUint32

const (
	local   = api.FlagLocal
	bad     = api.FlagBad
	ignored = api.FlagIgnored
)

// fileItem, dirItem and linkItem are items as a walk tells them.
func fileItem(p, data string, time int64) api.Record {
	r := api.Record{Path: p, Kind: api.KFile, Size: len(data), Time: time, BlockSize: 16}
	for r.BlockSize*32 < len(data) {
		r.BlockSize *= 2
	}
	for i := 0; i < len(data); i += r.BlockSize {
		r.Blocks = append(r.Blocks, sha.Sum([]byte(data[i:min(i+r.BlockSize, len(data))])))
	}
	return r
}

func dirItem(p string) api.Record { return api.Record{Path: p, Kind: api.KDir} }

func linkItem(p, target string, time int64) api.Record {
	return api.Record{Path: p, Kind: api.KLink, Target: target, Time: time}
}

// vec is the vector with these counters, device 1's first.
func vec(counters ...uint32) api.Vector {
	var v api.Vector
	copy(v[:], counters)
	return v
}

// of is a record of that item.
func of(item api.Record, by int, v api.Vector) api.Record {
	item.By, item.Vector = by, v
	item.Blocks = slices.Clone(item.Blocks)
	return item
}

// at is r at that time, flagged r with these flags, gone r deleted.
func at(r api.Record, time int64) api.Record {
	r.Time = time
	return r
}

func flagged(r api.Record, flags int) api.Record {
	r.Flags = flags
	return r
}

func gone(r api.Record) api.Record {
	r.Deleted, r.Size, r.BlockSize, r.Blocks, r.Target = true, 0, 0, nil, ""
	return r
}

// same tells whether all fields are the same, Seq too.
func same(a, b api.Record) bool {
	return a.Path == b.Path && a.Kind == b.Kind && a.Deleted == b.Deleted && a.Size == b.Size && a.Time == b.Time && a.By == b.By && a.Vector == b.Vector && a.BlockSize == b.BlockSize && slices.Equal(a.Blocks, b.Blocks) && a.Target == b.Target && a.Seq == b.Seq && a.Flags == b.Flags
}

func sameAll(a, b []api.Record) bool { return slices.EqualFunc(a, b, same) }

func items(l ...api.Record) walk.Found { return walk.Found{Items: l} }

func pathsOf(l []api.Record) []string {
	var paths []string
	for _, r := range l {
		paths = append(paths, r.Path)
	}
	return paths
}

// changes holds what Changes of the device 2 at the time 9 answers against these.
func changes(t *testing.T, own []api.Record, f walk.Found, want []api.Record, fail ...string) {
	t.Helper()
	l, failed, err := scan.Changes(own, f, 2, 9)
	if err != api.OK || !sameAll(l, want) || !slices.Equal(failed, fail) {
		t.Errorf("Changes(%v, %v) = %v, %q, %d, not %v, %q", own, f, l, failed, err, want, fail)
	}
}

// The chapter's examples.
func TestExamples(t *testing.T) {
	a := fileItem("a", "abc", 5)
	r := of(a, 1, vec(7))
	is := func(l ...api.Record) []api.Record { return l }
	changes(t, nil, items(a), is(of(a, 2, vec(0, 9))))
	changes(t, is(r), items(a), nil)
	changes(t, is(r), items(at(a, 6)), is(at(of(a, 2, vec(7, 9)), 6)))
	changes(t, is(r), items(), is(at(gone(of(a, 2, vec(7, 9))), 9)))
	changes(t, is(r), walk.Found{Ignored: []string{"a"}}, is(flagged(r, ignored)))
	changes(t, is(flagged(r, ignored)), items(a), is(r))
	changes(t, is(flagged(r, ignored)), items(), is(gone(r)))
	changes(t, is(of(a, 1, vec(7, top))), items(), nil, "a")
}

// P18.1: who can't be a device, and what can't be a time.
func TestRefuses(t *testing.T) {
	a := fileItem("a", "abc", 5)
	own, f := []api.Record{of(a, 1, vec(7)), of(dirItem("d//"), 0, vec())}, walk.Found{Items: []api.Record{at(a, 6)}, Ignored: []string{"x"}}
	refused := func(dev int, now int64) {
		t.Helper()
		for _, own := range [][]api.Record{own, nil} {
			for _, f := range []walk.Found{f, {}} {
				if l, failed, err := scan.Changes(own, f, dev, now); err != api.ErrArg || l != nil || failed != nil {
					t.Errorf("Changes of %d at %d = %v, %q, %d", dev, now, l, failed, err)
				}
			}
		}
	}
	for _, dev := range []int{0, -1, 17, 18, 1 << 32, 1<<32 + 1, math.MaxInt, math.MinInt} {
		refused(dev, 9)
		refused(dev, -1)
	}
	for _, now := range []int64{-1, -9, api.MaxTime + 1, 1<<32 + 9, math.MaxInt64, math.MinInt64} {
		refused(1, now)
		refused(16, now)
	}
	for _, now := range []int64{0, 1, api.MaxTime - 1, api.MaxTime} {
		for dev := 1; dev <= 16; dev++ {
			l, failed, err := scan.Changes(own, f, dev, now)
			if err != api.OK || len(l) != 1 || l[0].By != dev || !slices.Equal(failed, []string{"d//"}) {
				t.Errorf("Changes of %d at %d = %v, %q, %d", dev, now, l, failed, err)
			}
		}
	}
}

// P18.1: nothing was found, nothing is known, or both.
func TestEmpty(t *testing.T) {
	changes(t, nil, walk.Found{}, nil)
	changes(t, []api.Record{}, walk.Found{Items: []api.Record{}, Temps: []string{"~t~"}, Ignored: []string{"a", ""}, Bad: []string{"b", "a//"}}, nil)
}

// P18.1: of each device at each time the counter is bumped as chapter 3 says, from what it was.
func TestBumps(t *testing.T) {
	a, d := fileItem("a", "abc", 5), dirItem("d")
	for dev := 1; dev <= 16; dev++ {
		for _, counter := range []uint32{0, 1, 8, 9, 10, top - 1, top} {
			for _, now := range []int64{0, 1, 9, 10, api.MaxTime} {
				v := vec(3, 0, 5, 0, 0, 0, 0, 0, 0, 0, 0, 0, 0, 0, 0, 6)
				v[dev-1] = counter
				next, err := vector.Bump(v, dev, now)
				first, _ := vector.Bump(api.Vector{}, dev, now)
				own := []api.Record{of(a, 3, v), of(dirItem("x"), 3, v)}
				l, failed, e := scan.Changes(own, items(at(a, 6), d), dev, now)
				want := []api.Record{at(of(a, dev, next), 6), at(of(d, dev, first), now), at(gone(of(dirItem("x"), dev, next)), now)}
				fail := []string(nil)
				if err != api.OK {
					want, fail = want[1:2], []string{"a", "x"}
				}
				if e != api.OK || !sameAll(l, want) || !slices.Equal(failed, fail) {
					t.Errorf("Changes of %d at %d, from %v = %v, %q, %d, not %v, %q", dev, now, v, l, failed, e, want, fail)
				}
			}
		}
	}
}

// kinds are items of each kind, of which no two are alike; someItems answers them at a path.
var kinds = []api.Record{fileItem("", "abc", 5), fileItem("", "abd", 5), fileItem("", "abc", 6), fileItem("", "abcd", 5), fileItem("", "", 5), fileItem("", strings.Repeat("x", 4096), 5), dirItem(""), linkItem("", "abc", 5), linkItem("", "abc", 6), linkItem("", "x", 5)}

func someItems(p string) []api.Record {
	l := copied(kinds)
	for i := range l {
		l[i].Path = p
	}
	return l
}

// P18.2: the same kind, size, blocks, target and, but for directories, time.
func TestAlike(t *testing.T) {
	l := someItems("a")
	for i, item := range l {
		for j, r := range l {
			if scan.Alike(item, of(r, 1, vec(7))) != (i == j) {
				t.Errorf("Alike(%v, %v) = %t", item, r, i != j)
			}
			if scan.Alike(item, gone(of(r, 1, vec(7)))) {
				t.Errorf("Alike(%v, %v deleted)", item, r)
			}
			if record.Content(item, r) && item.Kind != api.KDir && item.Time == r.Time && i != j {
				t.Errorf("the test's items %d and %d are one", i, j)
			}
		}
	}
	for _, item := range l {
		r := of(item, 16, vec(1, 2, 3))
		r.Path, r.Seq, r.Flags = "b", 8, 7 // nobody asks for these
		if !scan.Alike(item, r) {
			t.Errorf("Alike(%v, %v) is false", item, r)
		}
		r.BlockSize = 99
		if !scan.Alike(item, r) {
			t.Errorf("Alike(%v, %v) is false", item, r)
		}
		r.Deleted = true // with all that it had
		if scan.Alike(item, r) {
			t.Errorf("Alike(%v, %v)", item, r)
		}
	}
	d := dirItem("d")
	for _, time := range []int64{0, 1, -1, api.MaxTime, math.MinInt64} {
		if !scan.Alike(d, at(of(d, 1, vec(7)), time)) || !scan.Alike(at(d, time), d) {
			t.Errorf("a directory's time is held against %d", time)
		}
		if scan.Alike(linkItem("l", "t", 5), at(linkItem("l", "t", 5), time)) || scan.Alike(fileItem("a", "", 5), at(fileItem("a", "", 5), time)) {
			t.Errorf("a time is not held against %d", time)
		}
	}
}

// P18.2: each field of which it is asked, whatever else is wrong.
func TestAlikeFields(t *testing.T) {
	for _, kind := range []int{1, 2, 3, 0, 4, -1} {
		full := api.Record{Path: "a", Kind: kind, Size: 3, Time: 5, BlockSize: 16, Blocks: []api.Hash{{1}, {2}}, Target: "t"}
		if !scan.Alike(full, full) {
			t.Errorf("%v is not alike itself", full)
		}
		for i, change := range []func(*api.Record){
			func(r *api.Record) { r.Kind = kind + 1 },
			func(r *api.Record) { r.Size = -3 },
			func(r *api.Record) { r.Blocks = []api.Hash{{1}} },
			func(r *api.Record) { r.Blocks = []api.Hash{{1}, {2}, {3}} },
			func(r *api.Record) { r.Blocks = []api.Hash{{2}, {1}} },
			func(r *api.Record) { r.Blocks = []api.Hash{{1}, {31: 1}} },
			func(r *api.Record) { r.Blocks = nil },
			func(r *api.Record) { r.Target = "" },
			func(r *api.Record) { r.Target = "T" },
			func(r *api.Record) { r.Time = 6 },
		} {
			r := full
			change(&r)
			want := kind == api.KDir && r.Time == 6
			if scan.Alike(full, r) != want || scan.Alike(r, full) != want {
				t.Errorf("kind %d: change %d: not %t", kind, i, want)
			}
		}
	}
	if !scan.Alike(api.Record{}, api.Record{Blocks: []api.Hash{}}) || scan.Alike(api.Record{}, api.Record{Deleted: true}) {
		t.Error("Alike of zero records")
	}
}

// P18.1: rows one and two of the table, of each kind and all flags.
func TestFound(t *testing.T) {
	for _, item := range someItems("d/a") {
		time := item.Time
		if item.Kind == api.KDir {
			time = 9
		}
		changes(t, nil, items(item), []api.Record{at(of(item, 2, vec(0, 9)), time)})
		for _, was := range someItems("d/a") {
			for flags := range 8 {
				own := flagged(of(was, 3, vec(7, 20, 1)), flags)
				own.Seq = 4
				want := []api.Record{flagged(at(of(item, 2, vec(7, 21, 1)), time), flags&local)}
				changes(t, []api.Record{gone(own)}, items(item), want)
				if !scan.Alike(item, was) {
					changes(t, []api.Record{own}, items(item), want)
					continue
				}
				own.Time += time - item.Time // of a directory it is not asked
				kept := flagged(own, flags&local)
				kept.Seq = 0
				want = []api.Record{kept}
				if flags < bad {
					want = nil
				}
				changes(t, []api.Record{own}, items(item), want)
			}
		}
	}
}

// P18.1: the other rows, of each kind and all flags: what is not there is ignored, bad, or neither.
func TestMissed(t *testing.T) {
	for _, was := range someItems("d/a") {
		for flags := range 8 {
			own := flagged(of(was, 3, vec(7, 20, 1)), flags)
			own.Seq = 4
			old := own
			old.Seq = 0
			to := func(r api.Record, flags int) []api.Record {
				if flags == r.Flags {
					return nil
				}
				return []api.Record{flagged(r, flags)}
			}
			for _, over := range []string{"d", "d/a", ""} { // the root is a directory, too
				changes(t, []api.Record{own}, walk.Found{Ignored: []string{over}}, to(old, flags|ignored))
				changes(t, []api.Record{own}, walk.Found{Ignored: []string{over}, Bad: []string{"d/a", "d"}}, to(old, flags|ignored))
				changes(t, []api.Record{own}, walk.Found{Bad: []string{over}}, to(old, flags|bad))
				changes(t, []api.Record{gone(own)}, walk.Found{Ignored: []string{over}}, to(gone(old), flags|ignored))
				changes(t, []api.Record{gone(own)}, walk.Found{Ignored: []string{over}, Bad: []string{over}}, to(gone(old), flags|ignored))
				changes(t, []api.Record{gone(own)}, walk.Found{Bad: []string{over}}, to(gone(old), flags&^ignored))
			}
			changes(t, []api.Record{gone(own)}, items(), to(gone(old), flags&^ignored))
			want := at(flagged(gone(of(was, 2, vec(7, 21, 1))), flags&local), 9)
			if flags >= ignored {
				want = flagged(gone(old), flags&local)
			}
			changes(t, []api.Record{own}, items(), []api.Record{want})
		}
	}
}

// P18.1: what is found is not asked whether it is ignored, or bad.
func TestFoundAheadOfPassed(t *testing.T) {
	a, d := fileItem("d/a", "abc", 5), dirItem("d")
	passed := walk.Found{Items: []api.Record{a, d}, Ignored: []string{"d", "d/a"}, Bad: []string{"", "d/a"}, Temps: []string{"d", "d/a"}}
	changes(t, nil, passed, []api.Record{at(of(d, 2, vec(0, 9)), 9), of(a, 2, vec(0, 9))})
	changes(t, []api.Record{of(d, 1, vec(7)), of(a, 1, vec(7))}, passed, nil)
	changes(t, []api.Record{flagged(of(d, 1, vec(7)), ignored|local), flagged(of(a, 1, vec(7)), bad)}, passed, []api.Record{flagged(of(d, 1, vec(7)), local), of(a, 1, vec(7))})
}

// P18.1: what lies within what is passed over, and what has only its name's beginning; temps are not asked for.
func TestWithin(t *testing.T) {
	paths := []string{"d", "d/e", "d/e/f/g/h/i", "da", "d a", "d-b/d", "e/d", "D"}
	for _, over := range []string{"d", "d/e", "d/e/f", "d/e/f/g/h/i", "e", "e/d", "d/", "/d", "d//e", "", "d-b", "d/e/f/g/h/i/j", "."} {
		for _, p := range paths {
			own := of(linkItem(p, "t", 5), 1, vec(7))
			lies := p == over || strings.HasPrefix(p, over+"/") || over == ""
			for flag, f := range map[int]walk.Found{ignored: {Ignored: []string{"x", over, "y"}}, bad: {Bad: []string{"x", over, "y"}}, 0: {Temps: []string{over}}} {
				want := flagged(own, flag)
				if !lies || flag == 0 {
					want = at(gone(of(own, 2, vec(7, 9))), 9)
				}
				changes(t, []api.Record{own}, f, []api.Record{want})
			}
		}
	}
}

// P18.1: what is found comes in order, then the others the other way round; what fails in order.
func TestOrder(t *testing.T) {
	inOrder := []string{"a", "a/a", "a/a/z", "a/a b", "a/b", "a b", "a-c", "aa", "b", "b/z", "\u00e9", "\xff"}
	r := rand.New(rand.NewSource(1))
	for range 200 {
		var own, found, want, others []api.Record
		var fail []string
		for _, p := range inOrder {
			item, v := dirItem(p), vec(7)
			fails := r.Intn(3) == 0
			if fails {
				v = vec(7, top)
			}
			was := of(linkItem(p, "t", 5), 1, v)
			switch there := r.Intn(2) == 0; {
			case there && fails:
				own, found, fail = append(own, was), append(found, item), append(fail, p)
			case there:
				own, found = append(own, was), append(found, item)
				want = append(want, at(of(item, 2, vec(7, 9)), 9))
			case fails:
				own, fail = append(own, was), append(fail, p)
			default:
				own = append(own, was)
				others = append(others, at(gone(of(was, 2, vec(7, 9))), 9))
			}
		}
		slices.Reverse(others)
		for range 3 {
			r.Shuffle(len(own), func(i, j int) { own[i], own[j] = own[j], own[i] })
			r.Shuffle(len(found), func(i, j int) { found[i], found[j] = found[j], found[i] })
			changes(t, own, items(found...), slices.Concat(want, others), fail...)
		}
	}
	if !slices.IsSortedFunc(inOrder, path.Cmp) {
		t.Error("the test's paths are in no order")
	}
}

// P18.1: of several items, or own records, of one path the last one counts.
func TestLastCounts(t *testing.T) {
	a, b, d := fileItem("a", "abc", 5), fileItem("a", "other", 6), dirItem("a")
	r, q := of(a, 1, vec(7)), of(b, 3, vec(0, 0, 30))
	changes(t, nil, items(a, d, b), []api.Record{of(b, 2, vec(0, 9))})
	changes(t, nil, items(b, a, d), []api.Record{at(of(d, 2, vec(0, 9)), 9)})
	changes(t, []api.Record{q, r}, items(b, a), nil)
	changes(t, []api.Record{r, q}, items(b, a), []api.Record{of(a, 2, vec(0, 9, 30))})
	changes(t, []api.Record{q, r}, items(a, b), []api.Record{of(b, 2, vec(7, 9))})
	changes(t, []api.Record{r, gone(q)}, items(), nil)
	changes(t, []api.Record{gone(q), r}, items(), []api.Record{at(gone(of(a, 2, vec(7, 9))), 9)})
	changes(t, []api.Record{r, of(b, 3, vec(0, top))}, items(), nil, "a")
	changes(t, []api.Record{of(b, 3, vec(0, top)), r}, items(), []api.Record{at(gone(of(a, 2, vec(7, 9))), 9)})
	bad := a
	bad.Size = 17
	changes(t, nil, items(a, bad), nil, "a")
	changes(t, nil, items(bad, a), []api.Record{of(a, 2, vec(0, 9))})
}

// P18.1: a change of which the record may not be fails, each once, and the others do not.
func TestFails(t *testing.T) {
	good, was := fileItem("good", "abc", 5), of(linkItem("was", "t", 5), 1, vec(7))
	more := []api.Record{of(good, 2, vec(0, 9)), at(gone(of(was, 2, vec(7, 9))), 9)}
	long := strings.Repeat("n", 49)
	for i, item := range []api.Record{
		fileItem("", "abc", 5), fileItem("/", "abc", 5), fileItem("a//b", "abc", 5), dirItem("a/.."), linkItem(long, "t", 5), dirItem("a/b/c/d/e/f/g"), fileItem("a\n", "", 0),
		fileItem("a", "abc", -1), fileItem("a", "abc", api.MaxTime+1), linkItem("a", "t", math.MinInt64), linkItem("a", "t", math.MaxInt64),
		linkItem("a", "", 5), linkItem("a", strings.Repeat("t", 161), 5), fileItem("a", strings.Repeat("x", 4097), 5),
		{Path: "a"}, {Path: "a", Kind: 4}, {Path: "a", Kind: -1}, {Path: "a", Kind: math.MaxInt},
		{Path: "a", Kind: 1}, {Path: "a", Kind: 1, Size: 3, BlockSize: 16}, {Path: "a", Kind: 1, Size: 3, BlockSize: 32, Blocks: make([]api.Hash, 1)}, {Path: "a", Kind: 1, Size: -1, BlockSize: 16}, {Path: "a", Kind: 1, BlockSize: 16, Target: "t"},
		{Path: "a", Kind: 2, Size: 3}, {Path: "a", Kind: 2, BlockSize: 16}, {Path: "a", Kind: 2, Blocks: make([]api.Hash, 1)}, {Path: "a", Kind: 2, Target: "t"}, {Path: "a", Kind: 3, Target: "t", Size: 1}, {Path: "a", Kind: 3, Target: "t", Blocks: make([]api.Hash, 1)},
	} {
		l, failed, err := scan.Changes([]api.Record{was}, items(item, good), 2, 9)
		if err != api.OK || !sameAll(l, more) || !slices.Equal(failed, []string{item.Path}) {
			t.Errorf("item %d: Changes = %v, %q, %d", i, l, failed, err)
		}
	}
	a := of(fileItem("a", "abc", 5), 1, vec(7))
	for i, change := range []func(*api.Record){
		func(r *api.Record) { r.Path = "a//b" },
		func(r *api.Record) { r.Path = "" },
		func(r *api.Record) { r.Kind = 0 },
		func(r *api.Record) { r.Kind = 4 },
		func(r *api.Record) { r.By = 0 },
		func(r *api.Record) { r.By = 17 },
		func(r *api.Record) { r.Time = -1 },
		func(r *api.Record) { r.Time = api.MaxTime + 1 },
		func(r *api.Record) { r.Flags = 8 },
		func(r *api.Record) { r.Flags = -1 &^ (ignored | bad) },
		func(r *api.Record) { r.Vector = vec() },
		func(r *api.Record) { r.Size = 17 },
		func(r *api.Record) { r.BlockSize = 32 },
		func(r *api.Record) { r.Blocks = nil },
		func(r *api.Record) { r.Target = "t" },
	} {
		r := a
		change(&r)
		for _, f := range []walk.Found{{Ignored: []string{"", r.Path}}, {Bad: []string{"", r.Path}}} {
			l, failed, err := scan.Changes([]api.Record{r}, f, 2, 9)
			if err != api.OK || len(l) > 0 || !slices.Equal(failed, []string{r.Path}) {
				t.Errorf("own record %d: Changes = %v, %q, %d", i, l, failed, err)
			}
		}
	}
}

// P18.1: what was wrong in an own record, and is no more in what it becomes, does not fail; a number that none may have, neither.
func TestMends(t *testing.T) {
	a := fileItem("a", "abc", 5)
	wrong := api.Record{Path: "a", Kind: 4, Deleted: true, Size: -3, Time: -1, By: 99, BlockSize: 5, Blocks: make([]api.Hash, 40), Target: "t", Seq: -1, Flags: -1}
	changes(t, []api.Record{wrong}, items(a), []api.Record{flagged(of(a, 2, vec(0, 9)), local)})
	wrong.Deleted, wrong.Kind, wrong.Flags = false, 1, 8
	changes(t, []api.Record{wrong}, items(), []api.Record{at(gone(of(a, 2, vec(0, 9))), 9)})
	r := of(a, 1, vec(7))
	for _, seq := range []int64{0, 1, 1 << 62, 1<<62 + 1, -1, math.MinInt64} {
		r.Seq = seq
		changes(t, []api.Record{r}, items(a), nil)
		changes(t, []api.Record{r}, walk.Found{Ignored: []string{"a"}}, []api.Record{flagged(of(a, 1, vec(7)), ignored)})
		changes(t, []api.Record{r}, items(dirItem("a")), []api.Record{at(of(dirItem("a"), 2, vec(7, 9)), 9)})
	}
}

// P18.1: an item says what a walk does of it; what else it has counts for nothing.
func TestItemsOtherFields(t *testing.T) {
	for _, item := range someItems("a") {
		odd := item
		odd.Deleted, odd.By, odd.Vector, odd.Seq, odd.Flags = true, 99, vec(5, top), -8, -1
		if item.Kind == api.KDir {
			odd.Time = -7
		}
		first, _, _ := scan.Changes(nil, items(item), 2, 9)
		changes(t, nil, items(odd), first)
		changes(t, first, items(odd), nil)
	}
}

// take answers own records, each change being in the place of that of its path.
func take(own, l []api.Record) []api.Record {
	own = slices.Clone(own)
	for _, r := range l {
		own = slices.DeleteFunc(own, func(x api.Record) bool { return x.Path == r.Path })
		own = append(own, r)
	}
	return own
}

// lastOf answers of several records of one path the last one.
func lastOf(l []api.Record) map[string]api.Record {
	m := map[string]api.Record{}
	for _, r := range l {
		m[r.Path] = r
	}
	return m
}

// settled holds own records, behind all changes, against P18.3.
func settled(t *testing.T, own []api.Record, f walk.Found, dev int, now int64, failed []string) {
	t.Helper()
	l, again, err := scan.Changes(own, f, dev, now)
	if err != api.OK || len(l) > 0 || !slices.Equal(again, failed) {
		t.Errorf("Changes(%v, %v) = %v, %q, %d, not %q", own, f, l, again, err, failed)
	}
	there, known := lastOf(f.Items), lastOf(own)
	for p, item := range there {
		r, ok := known[p]
		if !slices.Contains(failed, p) && (!ok || !scan.Alike(item, r) || r.Flags&(ignored|bad) != 0) {
			t.Errorf("the item %v is not alike %v", item, r)
		}
	}
	for p, r := range known {
		if _, ok := there[p]; !ok && !r.Deleted && r.Flags&(ignored|bad) == 0 && !slices.Contains(failed, p) {
			t.Errorf("%v is there, without an item", r)
		}
	}
}

// differs holds each change against P18.4.
func differs(t *testing.T, own, l []api.Record) {
	t.Helper()
	known := lastOf(own)
	for _, r := range l {
		was, ok := known[r.Path]
		if c := vector.Cmp(r.Vector, was.Vector); c != 0 && c != 1 {
			t.Errorf("%v, of %v: its vector does not dominate", r, was)
		}
		if ok && record.Content(r, was) && r.Time == was.Time && r.Flags == was.Flags {
			t.Errorf("%v, of %v, is none", r, was)
		}
		if r.Seq != 0 || record.Check(r) != api.OK {
			t.Errorf("%v may not be", r)
		}
	}
}

// passes tells whether a path is one of these, or lies within one.
func passes(l []string, p string) bool {
	return slices.ContainsFunc(l, func(dir string) bool { return p == dir || path.Within(p, dir) })
}

// byTable answers the change of a path, row by row as the chapter has them; false, if there is none.
func byTable(item *api.Record, own *api.Record, f walk.Found, p string, dev int, now int64) (api.Record, bool) {
	isIgnored, isBad := passes(f.Ignored, p), !passes(f.Ignored, p) && passes(f.Bad, p)
	has := func(flag int) bool { return own.Flags&flag != 0 }
	bumped := func(v api.Vector) api.Vector {
		v, _ = vector.Bump(v, dev, now)
		return v
	}
	switch {
	case item != nil && own == nil:
		r := api.Record{Path: p, Kind: item.Kind, Size: item.Size, Time: item.Time, BlockSize: item.BlockSize, Blocks: item.Blocks, Target: item.Target, By: dev, Vector: bumped(api.Vector{})}
		if r.Kind == api.KDir {
			r.Time = now
		}
		return r, true
	case item != nil && !scan.Alike(*item, *own):
		r, _ := byTable(item, nil, f, p, dev, now)
		r.Vector, r.Flags = bumped(own.Vector), own.Flags&local
		return r, true
	case item != nil && (has(ignored) || has(bad)):
		return flagged(*own, own.Flags&^ignored&^bad), true
	case item != nil:
		return api.Record{}, false
	case isIgnored && !has(ignored):
		return flagged(*own, own.Flags|ignored), true
	case !isIgnored && own.Deleted && has(ignored):
		return flagged(*own, own.Flags&^ignored), true
	case isBad && !own.Deleted && !has(bad):
		return flagged(*own, own.Flags|bad), true
	case !isIgnored && !isBad && !own.Deleted && has(ignored):
		return flagged(gone(*own), own.Flags&^ignored&^bad), true
	case !isIgnored && !isBad && !own.Deleted:
		r := flagged(gone(*own), own.Flags&local)
		r.By, r.Time, r.Vector = dev, now, bumped(own.Vector)
		return r, true
	}
	return api.Record{}, false
}

// byWords answers what Changes does, by the chapter's words.
func byWords(own []api.Record, f walk.Found, dev int, now int64) (l []api.Record, failed []string) {
	there, known := lastOf(f.Items), lastOf(own)
	var found, others []api.Record
	for _, p := range slices.Concat(pathsOf(f.Items), pathsOf(own)) {
		if slices.ContainsFunc(slices.Concat(found, others), func(r api.Record) bool { return r.Path == p }) || slices.Contains(failed, p) {
			continue
		}
		var item, was *api.Record
		if x, ok := there[p]; ok {
			item = &x
		}
		if x, ok := known[p]; ok {
			was = &x
		}
		r, ok := byTable(item, was, f, p, dev, now)
		r.Seq = 0
		switch {
		case !ok:
		case record.Check(r) != api.OK:
			failed = append(failed, p)
		case item != nil:
			found = append(found, r)
		default:
			others = append(others, r)
		}
	}
	slices.SortFunc(found, func(a, b api.Record) int { return path.Cmp(a.Path, b.Path) })
	slices.SortFunc(others, func(a, b api.Record) int { return path.Cmp(b.Path, a.Path) })
	slices.SortFunc(failed, path.Cmp)
	return slices.Concat(found, others), failed
}

// anyOwn and anyFound answer any of these, few paths of them, and odd ones among them.
func anyPath(r *rand.Rand) string {
	names := []string{"a", "b", "a b", "a-c", "~t~x", "\xff"}
	p := names[r.Intn(len(names))]
	for range r.Intn(3) {
		p += "/" + names[r.Intn(len(names))]
	}
	if r.Intn(30) == 0 {
		return []string{"", "/", p + "/", "a//b", "a\n"}[r.Intn(5)]
	}
	return p
}

func anyItem(r *rand.Rand) api.Record {
	l := someItems(anyPath(r))
	item := l[r.Intn(len(l))]
	switch r.Intn(60) {
	case 0:
		item.Kind = r.Intn(6) - 1
	case 1:
		item.Size++
	case 2:
		item.Time = r.Int63n(1<<34) - 1<<33
	case 3:
		item.Target += strings.Repeat("t", 160)
	}
	return item
}

func anyOwn(r *rand.Rand) []api.Record {
	var l []api.Record
	for range r.Intn(12) {
		x := of(anyItem(r), 1+r.Intn(16), vec(r.Uint32()&7, r.Uint32()&15, 1))
		x.Seq, x.Flags = r.Int63n(100), r.Intn(8)
		if r.Intn(3) == 0 {
			x = gone(x)
		}
		switch r.Intn(40) {
		case 0:
			x.Vector = vec()
		case 1:
			x.Vector = vec(top, top, top)
		case 2:
			x.By = 0
		case 3:
			x.Flags = r.Intn(40) - 20
		}
		l = append(l, x)
	}
	return l
}

func anyFound(r *rand.Rand, own []api.Record) walk.Found {
	var f walk.Found
	for range r.Intn(8) {
		f.Items = append(f.Items, anyItem(r))
	}
	for _, x := range own {
		if !x.Deleted && r.Intn(3) == 0 {
			item := x
			item.By, item.Vector, item.Seq, item.Flags = 0, vec(), 0, 0
			f.Items = append(f.Items, item)
		}
	}
	for _, l := range []*[]string{&f.Temps, &f.Ignored, &f.Bad} {
		for range r.Intn(3) {
			*l = append(*l, anyPath(r))
		}
	}
	return f
}

// copied answers records that share nothing with these.
func copied(l []api.Record) []api.Record {
	l = slices.Clone(l)
	for i, r := range l {
		l[i].Blocks = slices.Clone(r.Blocks)
	}
	return l
}

// P18.1, P18.3, P18.4: anything against the chapter's table; what is handed in stays.
func TestAny(t *testing.T) {
	r := rand.New(rand.NewSource(18))
	changed, fails := 0, 0
	for i := range 30000 {
		own := anyOwn(r)
		f := anyFound(r, own)
		dev, now := 1+r.Intn(3), r.Int63n(20)
		before := walk.Found{Items: copied(f.Items), Temps: slices.Clone(f.Temps), Ignored: slices.Clone(f.Ignored), Bad: slices.Clone(f.Bad)}
		was := copied(own)
		want, fail := byWords(own, f, dev, now)
		l, failed, err := scan.Changes(own, f, dev, now)
		if err != api.OK || !sameAll(l, want) || !slices.Equal(failed, fail) {
			t.Fatalf("%d: Changes(%v, %v, %d, %d) = %v, %q, %d, not %v, %q", i, own, f, dev, now, l, failed, err, want, fail)
		}
		if !sameAll(own, was) || !sameAll(f.Items, before.Items) || !slices.Equal(f.Temps, before.Temps) || !slices.Equal(f.Ignored, before.Ignored) || !slices.Equal(f.Bad, before.Bad) {
			t.Fatalf("%d: what was handed in was changed", i)
		}
		differs(t, own, l)
		settled(t, take(own, l), f, dev, now, failed)
		if t.Failed() {
			t.Fatalf("%d: Changes(%v, %v, %d, %d) = %v, %q", i, own, f, dev, now, l, failed)
		}
		changed, fails = changed+len(l), fails+len(failed)
	}
	if changed < 100000 || fails < 10000 {
		t.Errorf("the test has %d changes, and %d that fail", changed, fails)
	}
}

// R4: what is answered shares nothing with what is handed in, nor one list of it with another one.
func TestApart(t *testing.T) {
	data := strings.Repeat("some block's 16.", 3)
	a := fileItem("a", data, 5)
	b, c := a, of(a, 1, vec(7))
	b.Path, c.Path = "b", "c" // with the list of a
	d := c
	d.Path = "d"
	own, f := []api.Record{c, flagged(d, ignored)}, walk.Found{Items: []api.Record{a, b, d}, Ignored: []string{"c"}}
	l, _, _ := scan.Changes(own, f, 2, 9)
	want := []api.Record{of(a, 2, vec(0, 9)), of(b, 2, vec(0, 9)), of(d, 1, vec(7)), flagged(of(c, 1, vec(7)), ignored)}
	if !sameAll(l, want) {
		t.Fatalf("Changes = %v, not %v", l, want)
	}
	for i := range l {
		was := slices.Clone(l[i].Blocks)
		_ = append(l[i].Blocks[:1], api.Hash{9})
		l[i].Blocks[0][0] ^= 1
		if others := slices.Delete(slices.Clone(l), i, i+1); !sameAll(others, slices.Delete(slices.Clone(want), i, i+1)) {
			t.Errorf("a block of %q was changed, and others with it: %v", l[i].Path, others)
		}
		l[i].Blocks = was
	}
	if x := fileItem("a", data, 5); !slices.Equal(a.Blocks, x.Blocks) || !sameAll(f.Items, []api.Record{a, b, d}) || !sameAll(own, []api.Record{c, flagged(d, ignored)}) {
		t.Error("what was handed in was changed")
	}
	a.Blocks[0][1] ^= 1
	if !sameAll(l, want) {
		t.Error("what was answered was changed")
	}
	if again, _, _ := scan.Changes(own, f, 2, 9); sameAll(again, want) {
		t.Error("what was found was kept")
	}
}

// R6: it hangs on nothing but what is handed in, however often it is asked.
func TestAgain(t *testing.T) {
	var own, found []api.Record
	for i := range 256 {
		own = append(own, of(linkItem("d/"+strconv.Itoa(i%200), "t", 5), 1, vec(uint32(i+1), top*uint32(i%5/4))))
		found = append(found, linkItem("d/"+strconv.Itoa(i%120), "t", int64(i)))
	}
	l, failed, _ := scan.Changes(own, items(found...), 2, 300)
	if len(l) < 100 || len(failed) < 20 {
		t.Errorf("%d changes, %d that fail", len(l), len(failed))
	}
	for range 20 {
		if m, fail, err := scan.Changes(own, items(found...), 2, 300); err != api.OK || !sameAll(l, m) || !slices.Equal(failed, fail) {
			t.Fatalf("Changes = %v, %q, %d, not %v, %q", m, fail, err, l, failed)
		}
	}
}

// P18.1: many of all of them.
func TestMany(t *testing.T) {
	const n = 30000
	var own []api.Record
	var f walk.Found
	for i := range n {
		p := strconv.Itoa(i)
		own = append(own, of(dirItem("own/"+p), 1, vec(7)), of(dirItem("i"+p+"/x/y"), 1, vec(7)), of(dirItem("b"+p), 1, vec(7)))
		f.Items = append(f.Items, dirItem("found/"+p))
		f.Ignored, f.Bad = append(f.Ignored, "i"+p), append(f.Bad, "b"+p)
	}
	l, failed, err := scan.Changes(own, f, 2, 9)
	if err != api.OK || len(l) != 4*n || len(failed) != 0 {
		t.Errorf("%d changes, %d that fail, %d", len(l), len(failed), err)
	}
	settled(t, l, f, 2, 9, nil)
}

// R1: numbers and texts of any kind.
func TestAnyNumbers(t *testing.T) {
	r := rand.New(rand.NewSource(19))
	num := func() int64 {
		return []int64{0, 1, 2, 3, 7, 16, 17, -1, api.MaxTime, api.MaxTime + 1, math.MaxInt64, math.MinInt64}[r.Intn(12)]
	}
	odd := func() api.Record {
		x := api.Record{Path: anyPath(r), Kind: int(num()), Deleted: r.Intn(2) == 0, Size: int(num()), Time: num(), By: int(num()), BlockSize: int(num()), Target: strings.Repeat("\x00", r.Intn(300)), Seq: num(), Flags: int(num())}
		x.Blocks = make([]api.Hash, r.Intn(50))
		for i := range x.Vector {
			x.Vector[i] = uint32(num())
		}
		return x
	}
	for range 20000 {
		own, f := []api.Record{odd(), odd()}, walk.Found{Items: []api.Record{odd()}, Ignored: []string{anyPath(r)}, Bad: []string{anyPath(r)}}
		dev, now := int(num()), num()
		l, failed, err := scan.Changes(own, f, dev, now)
		if dev < 1 || dev > 16 || now < 0 || now > api.MaxTime {
			if err != api.ErrArg || l != nil || failed != nil {
				t.Fatalf("Changes of %d at %d = %v, %q, %d", dev, now, l, failed, err)
			}
			continue
		}
		for _, x := range l {
			if record.Check(x) != api.OK {
				t.Fatalf("%v may not be", x)
			}
		}
		if err != api.OK || !slices.IsSortedFunc(failed, path.Cmp) || len(l)+len(failed) > 3 {
			t.Fatalf("Changes = %v, %q, %d", l, failed, err)
		}
		settled(t, take(own, l), f, dev, now, failed)
		scan.Alike(own[0], own[1])
	}
}

// P18.1, P18.3: what a walk finds of a tree that is edited, with patterns that come and go.
func TestWalks(t *testing.T) {
	r := rand.New(rand.NewSource(20))
	names := []string{"a", "b", "a b", "e", "~t~x", "x.tmp"}
	patterns := []string{"", "e", "!a\nb", "*.tmp", "*", "/a"}
	some := func() string {
		p := "f1/" + names[r.Intn(len(names))]
		for range r.Intn(3) {
			p += "/" + names[r.Intn(len(names))]
		}
		return p
	}
	for range 150 {
		d, _ := disk.New(1 << 17)
		d.Mkdir("f1")
		var own []api.Record
		for now := range int64(30) {
			for range 5 {
				switch r.Intn(6) {
				case 0, 1:
					d.Mkdir(some())
				case 2, 3:
					d.Write(some(), strings.Repeat("x", []int{0, 3, 17, 4096, 4097}[r.Intn(5)]), now)
				case 4:
					d.Link(some(), "t", now)
				default:
					d.Remove(some())
				}
			}
			list, _ := ignore.Parse([]api.Text{{Name: "i", Text: patterns[r.Intn(len(patterns))]}}, "i")
			f, err := walk.Walk(d, "f1", list)
			if err != api.OK {
				t.Fatalf("Walk = %d", err)
			}
			l, failed, err := scan.Changes(own, f, 3, now)
			if err != api.OK || len(failed) > 0 {
				t.Fatalf("Changes = %v, %q, %d", l, failed, err)
			}
			differs(t, own, l)
			own = take(own, l)
			settled(t, own, f, 3, now, nil)
			for _, x := range own {
				isIgnored, isBad := passes(f.Ignored, x.Path), passes(f.Bad, x.Path)
				if isIgnored && x.Flags&ignored == 0 || !isIgnored && !isBad && x.Flags&ignored != 0 || isBad && !x.Deleted && x.Flags&bad == 0 {
					t.Errorf("%v, with %v", x, f)
				}
			}
			if t.Failed() {
				t.FailNow()
			}
		}
	}
}
