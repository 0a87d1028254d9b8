package queue_test

import (
	"math"
	"math/rand"
	"slices"
	"strconv"
	"strings"
	"testing"

	"caravan/api"
	"caravan/path"
	"caravan/queue"
	"caravan/record"
	"caravan/sha"
)

// The states that a path may be in, as a text tells them: a directory, a file, a link, and each of these deleted.
var states = []string{"D", "F", "L", "Dx", "Fx", "Lx"}

// of is a record of that path in that state. Its time and number tell it from others.
func of(p, state string, time int64) api.Record {
	r := api.Record{Path: p, Kind: 1 + strings.IndexByte("FDL", state[0]), Deleted: state[1:] == "x", Time: time, By: 1, Vector: api.Vector{uint32(time) + 1}, Seq: time}
	switch {
	case state == "F":
		r.Size, r.BlockSize, r.Blocks = 17, 16, []api.Hash{sha.Sum([]byte(p)), sha.Sum([]byte(p + state))}
	case state == "L":
		r.Target = p
	}
	return r
}

// list reads records such as "a D, a/b Fx". The empty text is none. Those of one list have times by their places.
func list(s string, time int64) []api.Record {
	var l []api.Record
	if s == "" {
		return nil
	}
	for i, part := range strings.Split(s, ", ") {
		at := strings.LastIndexByte(part, ' ')
		l = append(l, of(part[:at], part[at+1:], time+int64(i)))
	}
	return l
}

func needed(s string) []api.Record { return list(s, 1000) }

func owned(s string) []api.Record { return list(s, 2000) }

// same tells whether all fields are the same, Seq too.
func same(a, b api.Record) bool { return record.Same(a, b) && a.Seq == b.Seq }

func sameAll(a, b []api.Record) bool { return slices.EqualFunc(a, b, same) }

func pathsOf(l []api.Record) []string {
	var paths []string
	for _, r := range l {
		paths = append(paths, r.Path)
	}
	return paths
}

func split(s string) []string {
	if s == "" {
		return nil
	}
	return strings.Split(s, ", ")
}

// ready holds the paths that Ready answers against these, and each of its records against the last one of that path in needs.
func ready(t *testing.T, needs, own, want string) {
	t.Helper()
	l := needed(needs)
	got := queue.Ready(l, owned(own))
	if !slices.Equal(pathsOf(got), split(want)) {
		t.Errorf("Ready(%s; %s) = %q, not %s", needs, own, pathsOf(got), want)
	}
	for _, r := range got {
		if last, _ := lastOf(l, r.Path); !same(r, last) {
			t.Errorf("Ready(%s; %s) tells %v, not %v", needs, own, r, last)
		}
	}
}

func blocked(t *testing.T, needs, own, want string) {
	t.Helper()
	if got := queue.Blocked(needed(needs), owned(own)); !slices.Equal(got, split(want)) {
		t.Errorf("Blocked(%s; %s) = %q, not %s", needs, own, got, want)
	}
}

// The model, by the chapter's words: everything is looked for in the whole lists, again and again.

func counts(r api.Record) bool { return path.May(r.Path) && 1 <= r.Kind && r.Kind <= 3 }

func lastOf(l []api.Record, p string) (api.Record, bool) {
	for _, r := range slices.Backward(l) {
		if counts(r) && r.Path == p {
			return r, true
		}
	}
	return api.Record{}, false
}

func aliveIn(l []api.Record, p string) bool {
	r, there := lastOf(l, p)
	return there && !r.Deleted
}

func holdsAlive(l []api.Record, dir string) bool {
	return slices.ContainsFunc(l, func(r api.Record) bool { return path.Within(r.Path, dir) && aliveIn(l, r.Path) })
}

func wayBlocked(l []api.Record, p string) bool {
	return slices.ContainsFunc(l, func(r api.Record) bool {
		last, _ := lastOf(l, r.Path)
		return path.Within(p, r.Path) && r.Path != "" && aliveIn(l, r.Path) && last.Kind != api.KDir
	})
}

func canBeDone(r api.Record, own []api.Record) bool {
	if r.Deleted {
		return !aliveIn(own, r.Path) || !holdsAlive(own, r.Path)
	}
	return !wayBlocked(own, r.Path) && (r.Kind == api.KDir || !holdsAlive(own, r.Path))
}

func allPaths(l ...[]api.Record) []string {
	var paths []string
	for _, r := range slices.Concat(l...) {
		if counts(r) {
			paths = append(paths, r.Path)
		}
	}
	slices.SortFunc(paths, path.Cmp)
	return slices.Compact(paths)
}

func modelReady(needs, own []api.Record) []api.Record {
	var l []api.Record
	for _, p := range allPaths(needs) {
		if r, _ := lastOf(needs, p); !r.Deleted && canBeDone(r, own) {
			l = append(l, r)
		}
	}
	for _, p := range slices.Backward(allPaths(needs)) {
		if r, _ := lastOf(needs, p); r.Deleted && canBeDone(r, own) {
			l = append(l, r)
		}
	}
	return l
}

func modelAim(needs, own []api.Record) []api.Record {
	var l []api.Record
	for _, p := range allPaths(needs, own) {
		r, there := lastOf(needs, p)
		if !there {
			r, _ = lastOf(own, p)
		}
		l = append(l, r)
	}
	return l
}

func modelBlocked(needs, own []api.Record) []string {
	var l []string
	aim := modelAim(needs, own)
	for _, r := range aim {
		if (r.Deleted || r.Kind != api.KDir) && holdsAlive(aim, r.Path) {
			l = append(l, r.Path)
		}
	}
	return l
}

// model holds all three calls against the model, and tells whether they are as it is.
func model(t *testing.T, needs, own []api.Record) bool {
	t.Helper()
	good := true
	if got, want := queue.Ready(needs, own), modelReady(needs, own); !sameAll(got, want) {
		t.Errorf("Ready(%v, %v) = %v, not %v", needs, own, got, want)
		good = false
	}
	if got, want := queue.Blocked(needs, own), modelBlocked(needs, own); !slices.Equal(got, want) {
		t.Errorf("Blocked(%v, %v) = %q, not %q", needs, own, got, want)
		good = false
	}
	if got, want := queue.Aim(needs, own), modelAim(needs, own); !sameAll(got, want) {
		t.Errorf("Aim(%v, %v) = %v, not %v", needs, own, got, want)
		good = false
	}
	return good
}

// The chapter's examples: whatever is deleted, of each kind.
func TestExamples(t *testing.T) {
	for _, x := range []string{"Fx", "Dx", "Lx"} {
		for _, y := range [][4]string{
			{"a D, a/b F", "", "a, a/b", ""},
			{"a x, a/b x", "a D, a/b F", "a/b", ""},
			{"a F, a/b x", "a D, a/b F", "a/b", ""},
			{"a F", "a D, a/b F", "", "a"},
			{"a x", "a D, a/b F", "", "a"},
			{"a/b F", "a F", "", "a"},
			{"a/b F", "a x", "a/b", "a"},
		} {
			needs, own := strings.ReplaceAll(y[0], "x", x), strings.ReplaceAll(y[1], "x", x)
			ready(t, needs, own, y[2])
			blocked(t, needs, own, y[3])
		}
	}
}

// P20.1, P20.2: nothing at all.
func TestNothing(t *testing.T) {
	for _, l := range [][]api.Record{nil, {}, {{}}, {{Path: "a"}, {Kind: 1}}} {
		if r, b, a := queue.Ready(l, l), queue.Blocked(l, l), queue.Aim(l, l); len(r)+len(b)+len(a) != 0 {
			t.Errorf("of %v: %v, %q, %v", l, r, b, a)
		}
	}
	ready(t, "", "a D, a/b F, c Fx", "")
	blocked(t, "", "a D, a/b F, c Fx", "")
}

// P20.1: what is alive comes in the order of paths, then what is deleted the other way round, however it is handed in.
func TestReadyInOrder(t *testing.T) {
	needs := []string{
		"a D", "a/b D", "a/b/c F", "a/z L", "a b F", "a-c F", "b Fx", "b/c Dx", "b/c/d Lx", "b/y Fx", "b c Dx", "b-c Fx", "B L", "\xff F", "\x80/a F", "~ Fx", "  Lx",
	}
	want := "B, a, a/b, a/b/c, a/z, a b, a-c, \x80/a, \xff, ~, b-c, b c, b/y, b/c/d, b/c, b,  "
	r := rand.New(rand.NewSource(1))
	for range 200 {
		r.Shuffle(len(needs), func(i, j int) { needs[i], needs[j] = needs[j], needs[i] })
		ready(t, strings.Join(needs, ", "), "", want)
	}
}

// P20.1: what is there as it is needed is told all the same, as often as it is needed.
func TestReadyOfWhatIsThere(t *testing.T) {
	for _, s := range states {
		ready(t, "a "+s, "a "+s, "a")
		ready(t, "a "+s+", a "+s, "a "+s, "a")
		for _, was := range states {
			ready(t, "a/b "+s, "a/b "+was, "a/b")
		}
	}
}

// chain is a path of n parts, of one byte each.
func chain(n int) string { return "a/b/c/d/e/f"[:2*n-1] }

// P20.1: what is alive waits for any ancestor that is alive as a file or a link; what is deleted does not.
func TestReadyBehindAncestors(t *testing.T) {
	for deep := 2; deep <= api.MaxDepth; deep++ {
		for up := 1; up < deep; up++ {
			for _, stands := range states {
				for _, s := range states {
					want := chain(deep)
					if (stands == "F" || stands == "L") && !strings.HasSuffix(s, "x") {
						want = ""
					}
					ready(t, chain(deep)+" "+s, chain(up)+" "+stands, want)
					ready(t, chain(deep)+" "+s, chain(up)+" "+stands+", "+chain(deep)+" Fx, z F, a b F, ab L", want)
				}
			}
		}
	}
}

// P20.1: an ancestor that is no more to be what it is stands in the way as long as it is that.
func TestReadyBehindNeededAncestors(t *testing.T) {
	for _, stands := range []string{"F", "L"} {
		ready(t, "a D, a/b F, a/b/c Dx", "a "+stands, "a, a/b/c")
		ready(t, "a Fx, a/b F", "a "+stands, "a")
		ready(t, "a D, a/b D, a/b/c F", "a/b "+stands, "a, a/b")
		ready(t, "a L, a/b F", "a "+stands, "a")
		ready(t, "a L, a/b F", "a D", "a, a/b")
	}
}

// P20.1: what is no directory, and what is deleted where something is alive, waits for all that is alive within it.
func TestReadyAroundOthers(t *testing.T) {
	for at := 1; at < api.MaxDepth; at++ {
		for down := at + 1; down <= api.MaxDepth; down++ {
			for _, stands := range states {
				within := strings.HasSuffix(stands, "x")
				for _, s := range states {
					for _, was := range append([]string{""}, states...) {
						own := chain(down) + " " + stands
						if was != "" {
							own += ", " + chain(at) + " " + was
						}
						can := within || s == "D"
						if strings.HasSuffix(s, "x") {
							can = within || was == "" || strings.HasSuffix(was, "x")
						}
						want := chain(at)
						if !can {
							want = ""
						}
						ready(t, chain(at)+" "+s, own, want)
					}
				}
			}
		}
	}
}

// P20.1: what only begins alike, and what it is itself, is nothing within it, nor an ancestor.
func TestReadyBesideOthers(t *testing.T) {
	beside := "ab F, a b/c F, a-/b D, a-/b/c L, aa F, b/a F, A F, a. D, a./b F, b D"
	for _, s := range states {
		for _, was := range []string{"", ", a F", ", a D", ", a L", ", a Fx"} {
			ready(t, "a "+s, beside+was, "a")
		}
		ready(t, "ab/c/d "+s, "ab/c D, ab/cd F, ab/c/dd F, a F, b L, ab/c/c F, ab D", "ab/c/d")
		ready(t, "a/b/c "+s, "b F, c F, b/c F, a/c F, a/b D", "a/b/c")
	}
}

// P20.1: only what is within in own counts, not what is needed there.
func TestReadyDoesNotLookAhead(t *testing.T) {
	ready(t, "a F, a/b F", "", "a, a/b")
	ready(t, "a F, a/b D, a/b/c L", "a/b Dx", "a, a/b, a/b/c")
	ready(t, "a Fx, a/b F", "a D", "a/b, a")
	ready(t, "a Fx, a/b Fx, a/b/c Fx", "a D, a/b D, a/b/c F", "a/b/c")
	ready(t, "a Fx, a/b Fx, a/b/c Fx", "a D, a/b D", "a/b/c, a/b")
	ready(t, "a Fx, a/b Fx, a/b/c Fx", "a D", "a/b/c, a/b, a")
}

// P20.2: which states are blocked by what is alive within, at each depth, whoever says so.
func TestBlocked(t *testing.T) {
	for at := 1; at < api.MaxDepth; at++ {
		for down := at + 1; down <= api.MaxDepth; down++ {
			for _, s := range states {
				for _, within := range states {
					want := chain(at)
					if s == "D" || strings.HasSuffix(within, "x") {
						want = ""
					}
					a, b := chain(at)+" "+s, chain(down)+" "+within
					for _, l := range [][2]string{{a, b}, {b, a}, {a + ", " + b, ""}, {"", b + ", " + a}, {b, a + ", " + chain(down) + " F"}, {a, chain(at) + " D, " + b}, {a, chain(at) + " F, " + b}} {
						blocked(t, l[0], l[1], want)
					}
				}
			}
		}
	}
}

// P20.2: blocked paths are in order, each once; what only begins alike blocks nothing.
func TestBlockedInOrder(t *testing.T) {
	needs := []string{"b Fx", "a/b L", "a/b/c Dx", "a/b/c/d D", "a/b/c/e F", "a b F", "a-c/d F", "a F", "~/a/b L"}
	own := []string{"b/a F", "b/c F", "a/z D", "a b/c L", "a-c L", "c F", "c/d Fx", "d D", "d/e F", "ab F", "~/a Lx", "~ D", "a/b F"}
	r := rand.New(rand.NewSource(2))
	for range 200 {
		r.Shuffle(len(needs), func(i, j int) { needs[i], needs[j] = needs[j], needs[i] })
		r.Shuffle(len(own), func(i, j int) { own[i], own[j] = own[j], own[i] })
		blocked(t, strings.Join(needs, ", "), strings.Join(own, ", "), "a, a/b, a/b/c, a b, a-c, b, ~/a")
	}
	for _, s := range states {
		blocked(t, "a "+s, "ab F, a b/c F, a-/b D, b/a F", "")
	}
}

// P20.2: the aim has each path once, needs ahead of own, in order, whole.
func TestAim(t *testing.T) {
	aim := func(needs, own []api.Record, want ...api.Record) {
		t.Helper()
		if got := queue.Aim(needs, own); !sameAll(got, want) {
			t.Errorf("Aim(%v, %v) = %v, not %v", needs, own, got, want)
		}
	}
	for _, s := range states {
		n, o := of("a", s, 1), of("a", s, 2)
		aim([]api.Record{n}, nil, n)
		aim(nil, []api.Record{n}, n)
		for _, was := range states {
			o = of("a", was, 3)
			aim([]api.Record{n}, []api.Record{o}, n)
			aim([]api.Record{o}, []api.Record{n}, o)
			aim([]api.Record{o, n}, []api.Record{o, o}, n)
		}
	}
	a, b, c, d, e := of("a", "D", 1), of("a/b", "F", 2), of("a b", "L", 3), of("b", "Fx", 4), of("b/c", "F", 5)
	aim([]api.Record{e, c, a}, []api.Record{d, of("a b", "F", 6), b, of("b/c", "Fx", 7)}, a, b, c, d, e)
	aim(nil, []api.Record{e, d, c, b, a}, a, b, c, d, e)
	aim([]api.Record{e, d, c, b, a}, nil, a, b, c, d, e)
}

// notPaths are the paths of records that are passed over.
var notPaths = []string{
	"", "/", "/a", "a/", "a//b", ".", "..", "a/..", "a/./b", "\x00", "a\x7f", "a/\n", strings.Repeat("a", 49), "a/b/c/d/e/f/g", strings.Repeat("a/", 5000) + "a",
	strings.Repeat("a", 48) + "/" + strings.Repeat("a", 48) + "/" + strings.Repeat("a", 14) + "/a", strings.Repeat("a", 1<<16),
}

var notKinds = []int{0, 4, 5, -1, -3, 257, 1<<32 + 1, math.MaxInt, math.MinInt}

// P20.1, P20.2: what is no path, or of no kind, is as if it were not there.
func TestPassedOver(t *testing.T) {
	var none []api.Record
	for _, s := range states {
		for _, p := range notPaths {
			none = append(none, of(p, s, 1))
		}
		for _, k := range notKinds {
			for _, p := range []string{"a", "a/b", "a/b/c", "z"} {
				r := of(p, s, 1)
				r.Kind = k
				none = append(none, r)
			}
		}
	}
	for _, l := range [][2]string{
		{"a D, a/b F", ""}, {"a F", "a D, a/b F"}, {"a/b F", "a F"}, {"a/b F", "a Fx"}, {"a Fx, a/b Fx", "a D, a/b F"}, {"", "a D, a/b F"}, {"", ""}, {"a/b D", "a/b/c F"},
	} {
		needs, own := needed(l[0]), owned(l[1])
		r, b, a := queue.Ready(needs, own), queue.Blocked(needs, own), queue.Aim(needs, own)
		for _, n := range [][]api.Record{needs, slices.Concat(none, needs), slices.Concat(needs, none)} {
			for _, o := range [][]api.Record{own, slices.Concat(none, own), slices.Concat(own, none)} {
				if got := queue.Ready(n, o); !sameAll(got, r) {
					t.Errorf("of %v: Ready %v, not %v", l, got, r)
				}
				if got := queue.Blocked(n, o); !slices.Equal(got, b) {
					t.Errorf("of %v: Blocked %q, not %q", l, got, b)
				}
				if got := queue.Aim(n, o); !sameAll(got, a) {
					t.Errorf("of %v: Aim %v, not %v", l, got, a)
				}
			}
		}
	}
}

// P20.1, P20.2: of several of one path the last one counts; one of no kind is none of them.
func TestTheLastOneCounts(t *testing.T) {
	ready(t, "a/b F, a/b Fx", "a F", "a/b")
	ready(t, "a/b Fx, a/b F", "a F", "")
	ready(t, "a/b F", "a F, a Fx", "a/b")
	ready(t, "a/b F", "a D, a F", "")
	ready(t, "a/b F", "a F, a D", "a/b")
	ready(t, "a F, c F, a D", "a/b F", "a, c")
	ready(t, "a D, c F, a F", "a/b F", "c")
	ready(t, "a F", "a/b F, a/b Lx", "a")
	ready(t, "a F", "a/b Fx, a/b D", "")
	blocked(t, "a F, a D", "a/b F", "")
	blocked(t, "a D, a F", "a/b F", "a")
	blocked(t, "", "a F, a/b F, a D", "")
	blocked(t, "", "a F, a/b F, a/b Fx", "")
	none := of("a", "D", 9)
	none.Kind = 4
	l := append(needed("a D, a F"), none)
	if got := queue.Ready(l, owned("a/b F")); len(got) != 0 {
		t.Errorf("Ready(%v) = %v", l, got)
	}
	if got := queue.Aim(nil, l); !sameAll(got, l[1:2]) {
		t.Errorf("Aim of own %v = %v", l, got)
	}
	if got := queue.Aim(l, owned("a Lx")); !sameAll(got, l[1:2]) {
		t.Errorf("Aim of %v = %v", l, got)
	}
	if got := queue.Aim([]api.Record{none}, owned("a Lx")); !sameAll(got, owned("a Lx")) {
		t.Errorf("Aim of %v = %v", none, got)
	}
}

// P20.1, P20.2: all other fields may be anything, and are told as they are.
func TestOtherFields(t *testing.T) {
	odd := []api.Record{
		{Path: "a", Kind: 2, Size: -1, Time: math.MinInt64, By: 99, BlockSize: -7, Blocks: make([]api.Hash, 3), Target: "x", Seq: -5, Flags: 255},
		{Path: "a/b", Kind: 1, Time: math.MaxInt64, By: -1, Blocks: make([]api.Hash, 40), Target: strings.Repeat("y", 500), Seq: math.MaxInt64, Flags: -1},
		{Path: "b", Kind: 3, Deleted: true, Size: math.MaxInt, Blocks: make([]api.Hash, 1), Target: "z"},
	}
	model(t, odd, nil)
	model(t, nil, odd)
	model(t, odd, odd)
	if got := queue.Ready(odd, nil); !sameAll(got, odd) {
		t.Errorf("Ready = %v", got)
	}
	for flags := range 8 {
		l := owned("a F")
		l[0].Flags = flags
		model(t, needed("a/b F"), l)
		model(t, l, needed("a/b F"))
		if got := queue.Ready(needed("a/b F"), l); len(got) != 0 {
			t.Errorf("with Flags %d: Ready = %v", flags, got)
		}
	}
}

// anyList is some records of a few paths that lie within one another; some are passed over, some are of one path.
func anyList(r *rand.Rand, most int) []api.Record {
	paths := []string{"a", "a/b", "a/b/c", "a/b/c/d", "a/b/c/d/e", "a/b/c/d/e/f", "a/d", "a b", "ab", "a-b/c", "b", "b/c", "b/c/d"}
	var l []api.Record
	for i := range r.Intn(most + 1) {
		x := of(paths[r.Intn(len(paths))], states[r.Intn(len(states))], int64(i))
		switch r.Intn(30) {
		case 0:
			x.Kind = notKinds[r.Intn(len(notKinds))]
		case 1:
			x.Path = notPaths[r.Intn(len(notPaths))]
		}
		l = append(l, x)
	}
	return l
}

// P20.1, P20.2: any records, against the chapter's words.
func TestAgainstModel(t *testing.T) {
	r := rand.New(rand.NewSource(3))
	for range 10000 {
		if !model(t, anyList(r, 9), anyList(r, 9)) {
			return
		}
	}
	for range 300 {
		if !model(t, anyList(r, 60), anyList(r, 60)) {
			return
		}
	}
}

// eachOf hands over all lists of records of these paths, each path in one of the states, or in none.
func eachOf(paths []string, hand func(l []api.Record)) {
	var put func(i int, l []api.Record)
	put = func(i int, l []api.Record) {
		if i == len(paths) {
			hand(slices.Clone(l))
			return
		}
		put(i+1, l)
		for _, s := range []string{"D", "F", "Fx"} {
			put(i+1, append(l, of(paths[i], s, int64(i))))
		}
	}
	put(0, nil)
}

// done is what needs and own are when r was done.
func done(needs, own []api.Record, r api.Record) (n, o []api.Record) {
	is := func(x api.Record) bool { return x.Path == r.Path }
	return slices.DeleteFunc(slices.Clone(needs), is), append(slices.DeleteFunc(slices.Clone(own), is), r)
}

// sound tells whether nothing that is alive lies within a file or a link that is alive.
func sound(l []api.Record) bool {
	return !slices.ContainsFunc(l, func(r api.Record) bool { return aliveIn(l, r.Path) && wayBlocked(l, r.Path) })
}

// doAll does whatever can be done, in each order, and holds P20.3 and P20.4 each time.
func doAll(t *testing.T, needs, own []api.Record) {
	t.Helper()
	free, good := len(queue.Blocked(needs, own)) == 0, sound(own)
	l := queue.Ready(needs, own)
	if free && len(needs) > 0 && len(l) == 0 {
		t.Errorf("nothing of %v can be done, with %v", needs, own)
	}
	for _, r := range l {
		n, o := done(needs, own, r)
		if good && !sound(o) {
			t.Errorf("of %v with %v: %v is not sound behind %v", needs, own, o, r)
		}
		if still := len(queue.Blocked(n, o)) == 0; still != free {
			t.Errorf("of %v with %v: no path was blocked: %t; behind %v: %t", needs, own, free, r, still)
		}
		doAll(t, n, o)
	}
}

// P20.1 to P20.4: all states of a few paths, done in each order.
func TestAllStates(t *testing.T) {
	for _, paths := range [][]string{{"a", "a/b", "a/b/c"}, {"a", "a/b", "a/c"}} {
		eachOf(paths, func(needs []api.Record) {
			eachOf(paths, func(own []api.Record) {
				if !t.Failed() && model(t, needs, own) {
					doAll(t, needs, own)
				}
			})
		})
	}
}

// treeOf is a tree as a device may have it: what is in it lies within directories alone; some paths are deleted.
func treeOf(r *rand.Rand, time int64) []api.Record {
	var l []api.Record
	add := func(p, state string) {
		if _, there := lastOf(l, p); !there {
			l = append(l, of(p, state, time+int64(len(l))))
		}
	}
	for range 1 + r.Intn(12) {
		p := strings.Repeat("/"+string(byte('a'+r.Intn(2)))+"/"+string(byte('a'+r.Intn(2))), 3)[1:]
		p = p[:1+2*r.Intn(6)]
		parts := path.Parts(p)
		for i := 1; i < len(parts); i++ {
			add(strings.Join(parts[:i], "/"), "D")
		}
		add(p, states[r.Intn(len(states))])
	}
	// What lies within anything but a directory that is alive is gone.
	slices.SortFunc(l, func(a, b api.Record) int { return path.Cmp(a.Path, b.Path) })
	for i, x := range l {
		for _, y := range l[:i] {
			if path.Within(x.Path, y.Path) && (y.Deleted || y.Kind != api.KDir) {
				l[i] = of(x.Path, "Fx", x.Time)
			}
		}
	}
	return l
}

// P20.3, P20.4: of one tree another one is made, one thing behind the other, in any order.
func TestOneTreeBecomesAnother(t *testing.T) {
	r := rand.New(rand.NewSource(4))
	for range 400 {
		own, aim := treeOf(r, 0), treeOf(r, 1000)
		needs := slices.Clone(aim)
		for _, x := range own {
			if _, there := lastOf(aim, x.Path); !there {
				needs = append(needs, of(x.Path, "Fx", 2000))
			}
		}
		want := modelAim(needs, own)
		if l := queue.Blocked(needs, own); len(l) != 0 {
			t.Fatalf("Blocked(%v, %v) = %q", needs, own, l)
		}
		for len(needs) > 0 {
			l := queue.Ready(needs, own)
			if len(l) == 0 {
				t.Fatalf("nothing of %v can be done, with %v", needs, own)
			}
			needs, own = done(needs, own, l[r.Intn(len(l))])
			if !sound(own) {
				t.Fatalf("%v is not sound", own)
			}
		}
		if got := queue.Aim(nil, own); !sameAll(got, want) {
			t.Fatalf("%v became of it, not %v", got, want)
		}
	}
}

// P20.4: also where paths are blocked, and whatever is needed.
func TestSoundWhateverIsNeeded(t *testing.T) {
	r := rand.New(rand.NewSource(5))
	for range 1000 {
		needs, own := anyList(r, 9), treeOf(r, 0)
		for range 12 {
			l := queue.Ready(needs, own)
			if len(l) == 0 {
				break
			}
			needs, own = done(needs, own, l[r.Intn(len(l))])
			if !sound(own) {
				t.Fatalf("%v is not sound", own)
			}
		}
	}
}

// copyOf shares nothing with l.
func copyOf(l []api.Record) []api.Record {
	l = slices.Clone(l)
	for i := range l {
		l[i].Blocks = slices.Clone(l[i].Blocks)
	}
	return l
}

// R4: nothing that is handed in is changed, or written behind; what is answered is new memory.
func TestNewMemory(t *testing.T) {
	behind := of("z", "F", 99)
	needs := append(needed("b F, a/c F, a D, a/b Fx, a F, a D, x//y F"), behind)
	own := append(owned("a D, b F, a/b F, d F, d Dx, c F"), behind)
	for i := range needs {
		if needs[i].Blocks != nil {
			needs[i].Blocks = append(needs[i].Blocks, api.Hash{9})[:2]
		}
	}
	n, o := copyOf(needs), copyOf(own)
	calls := func() (r, a []api.Record, b []string) {
		needs, own := needs[:7], own[:6]
		return queue.Ready(needs, own), queue.Aim(needs, own), queue.Blocked(needs, own)
	}
	r, a, b := calls()
	wantR, wantA, wantB := copyOf(r), copyOf(a), slices.Clone(b)
	for _, l := range [][]api.Record{r, a} {
		for i := range l {
			for j := range l[i].Blocks {
				l[i].Blocks[j] = api.Hash{}
			}
			l[i].Blocks = append(l[i].Blocks, api.Hash{1})
		}
		clear(l[:cap(l)])
	}
	clear(b)
	if !sameAll(needs, n) || !sameAll(own, o) {
		t.Error("what was handed in is changed")
	}
	for i := range needs {
		if l := needs[i].Blocks; len(l) == 2 && cap(l) > 2 && l[:3][2] != (api.Hash{9}) {
			t.Error("what stands behind blocks is changed")
		}
	}
	if r, a, b := calls(); !sameAll(r, wantR) || !sameAll(a, wantA) || !slices.Equal(b, wantB) {
		t.Errorf("now %v, %v, %q", r, a, b)
	}
	r, a, _ = calls()
	for i := range needs {
		clear(needs[i].Blocks)
	}
	for i := range own {
		clear(own[i].Blocks)
	}
	if !sameAll(r, wantR) || !sameAll(a, wantA) {
		t.Error("what was answered is changed by what was handed in")
	}
}

// LANGUAGE 7: no two lists of one answer share memory, also where they did when they were handed in.
func TestNoListSharesWithAnother(t *testing.T) {
	needs := needed("a F, b F, c F")
	for i := range needs {
		needs[i].Blocks = needs[0].Blocks
	}
	want := copyOf(needs)
	for _, l := range [][]api.Record{queue.Ready(needs, nil), queue.Aim(needs, nil), queue.Aim(nil, needs)} {
		clear(l[0].Blocks)
		if !sameAll(l[1:], want[1:]) {
			t.Errorf("%v", l)
		}
	}
}

// R6: the order in which a map is gone through is not to be seen; many records are told of soon.
func TestManyRecords(t *testing.T) {
	var needs, own []api.Record
	for i := range 300 {
		dir := "d" + strconv.Itoa(i)
		own = append(own, of(dir, "D", 1))
		needs = append(needs, of(dir, states[i%6], 2))
		for j := range 100 {
			p := dir + "/a/b/c/" + strconv.Itoa(j)
			own = append(own, of(p, states[j%6], 3))
			needs = append(needs, of(p, states[(i+j)%6], 4))
		}
	}
	r, b, a := queue.Ready(needs, own), queue.Blocked(needs, own), queue.Aim(needs, own)
	if len(a) != len(needs) || !slices.IsSortedFunc(a, func(x, y api.Record) int { return path.Cmp(x.Path, y.Path) }) || !slices.IsSortedFunc(b, path.Cmp) || len(b) != 250 {
		t.Errorf("the aim has %d records, and %d blocked paths", len(a), len(b))
	}
	alive := slices.IndexFunc(r, func(x api.Record) bool { return x.Deleted })
	for i, x := range r {
		if i >= alive != x.Deleted || i > 0 && i != alive && (path.Cmp(r[i-1].Path, x.Path) < 0) == x.Deleted {
			t.Fatalf("%s is told in the wrong place", x.Path)
		}
	}
	rnd := rand.New(rand.NewSource(6))
	for range 3 {
		rnd.Shuffle(len(needs), func(i, j int) { needs[i], needs[j] = needs[j], needs[i] })
		rnd.Shuffle(len(own), func(i, j int) { own[i], own[j] = own[j], own[i] })
		if !sameAll(queue.Ready(needs, own), r) || !slices.Equal(queue.Blocked(needs, own), b) || !sameAll(queue.Aim(needs, own), a) {
			t.Error("the order of the lists is to be seen")
		}
	}
}

// P20.1, P20.2: paths at the limits of what a path may be.
func TestLongPaths(t *testing.T) {
	a := func(n int) string { return strings.Repeat("a", n) }
	dir := a(48) + "/" + a(48) + "/" + a(13)
	long := dir + "/" + a(48)
	ready(t, long+" F", dir+" D", long)
	ready(t, long+" F", dir+" F", "")
	ready(t, dir+" F", long+" F", "")
	blocked(t, dir+" L", long+" D", dir)
	blocked(t, dir+" D", a(48)+" F", a(48))
	ready(t, long+"a F, "+dir+"a F, "+dir+"a/a F", dir+" F", dir+"a")
}
