package record_test

import (
	"bytes"
	"encoding/binary"
	"encoding/hex"
	"math"
	"math/rand"
	"slices"
	"strconv"
	"strings"
	"testing"

	"caravan/api"
	"caravan/block"
	tape "caravan/bytes"
	"caravan/record"
)

const maxSeq = 1 << 62

// edges are the lengths of files around those at which the block size or the number of blocks becomes another one.
var edges = []int{0, 1, 15, 16, 17, 32, 33, 511, 512, 513, 544, 545, 1023, 1024, 1025, 2047, 2048, 2049, 4095, 4096}

func digest(n int) api.Hash { return api.Hash{byte(n >> 8), byte(n), 31: byte(n * 7)} }

// vectorOf answers the vector with these first counters.
func vectorOf(l ...uint32) api.Vector {
	v := api.Vector{}
	copy(v[:], l)
	return v
}

// counter answers the vector with one counter above 0.
func counter(dev int, n uint32) api.Vector {
	v := api.Vector{}
	v[dev-1] = n
	return v
}

// withSize answers r as a file of n bytes.
func withSize(r api.Record, n int) api.Record {
	r.Kind, r.Size, r.BlockSize, r.Blocks = api.KFile, n, block.Size(n), nil
	for i := range block.Count(n) {
		r.Blocks = append(r.Blocks, digest(i))
	}
	return r
}

func fileOf(n int) api.Record {
	return withSize(api.Record{Path: "a", Time: 7, By: 1, Vector: counter(1, 7)}, n)
}

func aDir() api.Record {
	return api.Record{Path: "d", Kind: api.KDir, Time: 9, By: 3, Vector: counter(3, 1), Seq: 2}
}

func aLink(target string) api.Record {
	return api.Record{Path: "l", Kind: api.KLink, Time: 9, By: 3, Vector: counter(3, 1), Target: target}
}

func gone(kind int) api.Record {
	return api.Record{Path: "g", Kind: kind, Deleted: true, Time: 9, By: 3, Vector: counter(3, 1)}
}

// with answers r changed by change.
func with(r api.Record, change func(r *api.Record)) api.Record {
	r.Blocks = slices.Clone(r.Blocks)
	change(&r)
	return r
}

func isZero(r api.Record) bool { return record.Same(r, api.Record{}) && r.Seq == 0 }

// alike tells whether all fields are the same, Seq too.
func alike(a, b api.Record) bool { return record.Same(a, b) && a.Seq == b.Seq }

func check(t *testing.T, what string, r api.Record, want api.Errno) {
	t.Helper()
	if got := record.Check(r); got != want {
		t.Errorf("%s: Check = %d, not %d", what, got, want)
	}
	b, err := record.Put([]byte("x"), r)
	if err != want || (len(b) != 0) != (want == api.OK) {
		t.Errorf("%s: Put = %x, %d, not %d", what, b, err, want)
	}
}

// roomy answers bytes with room for many more behind them, and all of that memory.
func roomy(b []byte) (part, all []byte) {
	all = slices.Repeat([]byte{0xee}, len(b)+2000)
	copy(all, b)
	return all[:len(b)], all
}

// bytesOf is P6.4, told by the library: the bytes of any record, with each number cut to its width.
func bytesOf(r api.Record) []byte {
	b := binary.BigEndian.AppendUint16(nil, uint16(len(r.Path)))
	b = append(b, r.Path...)
	bits := byte(r.Flags << 1)
	if r.Deleted {
		bits |= 1
	}
	b = append(b, byte(r.Kind), bits)
	b = binary.BigEndian.AppendUint32(b, uint32(r.Time))
	b = append(b, byte(r.By))
	l, count := []byte{}, byte(0)
	for i, n := range r.Vector {
		if n > 0 {
			l = binary.BigEndian.AppendUint32(append(l, byte(i+1)), n)
			count++
		}
	}
	b = append(append(b, count), l...)
	b = binary.BigEndian.AppendUint16(b, uint16(r.Size))
	for _, h := range r.Blocks {
		b = append(b, h[:]...)
	}
	b = binary.BigEndian.AppendUint16(b, uint16(len(r.Target)))
	b = append(b, r.Target...)
	return binary.BigEndian.AppendUint64(b, uint64(r.Seq))
}

// randomNumber answers one of 0 to most, often one at an edge.
func randomNumber(r *rand.Rand, most int64) int64 {
	switch r.Intn(4) {
	case 0:
		return r.Int63n(min(most, 3) + 1)
	case 1:
		return most
	}
	return r.Int63n(most + 1)
}

func randomVector(r *rand.Rand) api.Vector {
	v := api.Vector{}
	for range 1 + r.Intn(api.MaxDevices) {
		v[r.Intn(api.MaxDevices)] = uint32(randomNumber(r, api.MaxTime))
	}
	v[r.Intn(api.MaxDevices)]++ // what was the greatest one is 0 then
	if v == (api.Vector{}) {
		v[r.Intn(api.MaxDevices)] = 1
	}
	return v
}

// randomRecord answers one that may be.
func randomRecord(r *rand.Rand) api.Record {
	paths := []string{"a", "a/b", "d/e f/g", "é", strings.Repeat("n", 48), strings.Repeat("d/", 5) + "x"}
	x := api.Record{
		Path: paths[r.Intn(len(paths))], Kind: 1 + r.Intn(3), Deleted: r.Intn(3) == 0,
		Time: randomNumber(r, api.MaxTime), By: 1 + r.Intn(api.MaxDevices), Vector: randomVector(r),
		Seq: randomNumber(r, maxSeq), Flags: r.Intn(8),
	}
	switch {
	case x.Deleted:
	case x.Kind == api.KFile:
		x = withSize(x, edges[r.Intn(len(edges))])
		for i := range x.Blocks {
			r.Read(x.Blocks[i][:])
		}
	case x.Kind == api.KLink:
		x.Target = strings.Repeat("t", 1+int(randomNumber(r, api.MaxTarget-1)))
	}
	return x
}

// near answers records that are unlike in few things, so that what stands last in the order tells, too; most of them may not be.
func near(r *rand.Rand) api.Record {
	x := api.Record{Path: string(rune('a' + r.Intn(2))), Kind: 1 + r.Intn(2), Deleted: r.Intn(2) == 0, Time: int64(r.Intn(2)), Size: r.Intn(2), By: r.Intn(3)}
	x.Vector[r.Intn(3)]++
	if r.Intn(4) == 0 {
		x.Vector[r.Intn(3)]++
	}
	for range r.Intn(3) {
		h := api.Hash{}
		h[r.Intn(len(h))] = byte(r.Intn(3) * 100)
		x.Blocks = append(x.Blocks, h)
	}
	x.Target = []string{"", "t", "tt", "u", "\xff"}[r.Intn(5)]
	return x
}

// winner is P6.2's Cmp, told one thing behind the other.
func winner(a, b api.Record) int {
	sumA, sumB := uint64(0), uint64(0)
	for i := range a.Vector {
		sumA, sumB = sumA+uint64(a.Vector[i]), sumB+uint64(b.Vector[i])
	}
	tell := func(less bool) int {
		if less {
			return -1
		}
		return 1
	}
	if sumA != sumB {
		return tell(sumA < sumB)
	}
	if a.Deleted != b.Deleted {
		return tell(a.Deleted)
	}
	if a.Time != b.Time {
		return tell(a.Time < b.Time)
	}
	for i := range a.Vector {
		if a.Vector[i] != b.Vector[i] {
			return tell(a.Vector[i] < b.Vector[i])
		}
	}
	if a.Kind != b.Kind {
		return tell(a.Kind < b.Kind)
	}
	if a.Size != b.Size {
		return tell(a.Size < b.Size)
	}
	if len(a.Blocks) != len(b.Blocks) {
		return tell(len(a.Blocks) < len(b.Blocks))
	}
	for i := range a.Blocks {
		if a.Blocks[i] != b.Blocks[i] {
			return tell(bytes.Compare(a.Blocks[i][:], b.Blocks[i][:]) < 0)
		}
	}
	if a.Target != b.Target {
		return tell(a.Target < b.Target)
	}
	return 0
}

// The chapter's examples.
func TestExamples(t *testing.T) {
	a := fileOf(3)
	b := with(a, func(r *api.Record) { r.By, r.Time, r.Vector = 2, 6, counter(2, 8) })
	check(t, "A", a, api.OK)
	check(t, "Size 17", with(a, func(r *api.Record) { r.Size = 17 }), api.ErrForm)
	check(t, "Kind 4", with(a, func(r *api.Record) { r.Kind = 4 }), api.ErrKind)
	check(t, "By 0", with(a, func(r *api.Record) { r.By = 0 }), api.ErrArg)
	check(t, "a//b", with(a, func(r *api.Record) { r.Path = "a//b" }), api.ErrPath)
	if got := record.Cmp(a, b); got != -1 {
		t.Errorf("Cmp(A, B) = %d", got)
	}
	if got := record.Cmp(with(a, func(r *api.Record) { r.Vector = vectorOf(7, 8) }), b); got != 1 {
		t.Errorf("Cmp of A with 7 and 8, and B = %d", got)
	}
	deleted := with(a, func(r *api.Record) { r.Deleted = true })
	if got := record.Cmp(deleted, with(b, func(r *api.Record) { r.Vector = counter(2, 7) })); got != -1 {
		t.Errorf("Cmp of A deleted, and B with 7 = %d", got)
	}
	if got := record.Best(a, b, a); got != 1 {
		t.Errorf("Best(A, B, A) = %d", got)
	}
	if got := record.Best(); got != -1 {
		t.Errorf("Best() = %d", got)
	}
	want, _ := hex.DecodeString("00016402000000000903010300000001" + "000000000000000000000002")
	if got, err := record.Put(nil, aDir()); !bytes.Equal(got, want) || err != api.OK {
		t.Errorf("Put = %x, %d", got, err)
	}
}

// P6.1: records of each kind that may be, with all numbers at their edges.
func TestCheckOK(t *testing.T) {
	for _, n := range edges {
		check(t, "a file of "+strconv.Itoa(n)+" bytes", fileOf(n), api.OK)
	}
	for what, r := range map[string]api.Record{
		"directory": aDir(), "short link": aLink("t"), "long link": aLink(strings.Repeat("t", 160)), "any link": aLink("\x00/../\xff"),
		"file gone": gone(api.KFile), "directory gone": gone(api.KDir), "link gone": gone(api.KLink),
	} {
		check(t, what, r, api.OK)
		for _, blocks := range [][]api.Hash{nil, {}} {
			check(t, what, with(r, func(r *api.Record) { r.Blocks = blocks }), api.OK)
		}
		for dev := 1; dev <= 16; dev++ {
			for _, n := range []uint32{1, 255, 1 << 31, math.MaxUint32} {
				check(t, what, with(r, func(r *api.Record) { r.By, r.Vector = 17-dev, counter(dev, n) }), api.OK)
			}
		}
		for _, n := range []int64{0, 1, 1 << 31, api.MaxTime - 1, api.MaxTime} {
			check(t, what, with(r, func(r *api.Record) { r.Time = n }), api.OK)
		}
		for _, n := range []int64{0, 1, 1 << 32, 1<<62 - 1, 1 << 62} {
			check(t, what, with(r, func(r *api.Record) { r.Seq = n }), api.OK)
		}
		for n := range 8 {
			check(t, what, with(r, func(r *api.Record) { r.Flags = n }), api.OK)
		}
	}
}

// wrongs are changes by which no record may be any more, by the error that they have.
func wrongs() map[api.Errno][]func(r *api.Record) {
	l := map[api.Errno][]func(r *api.Record){}
	add := func(err api.Errno, change func(r *api.Record)) { l[err] = append(l[err], change) }
	for _, p := range []string{"", "/", "/a", "a/", "a//b", ".", "a/..", "a\x00", strings.Repeat("n", 49), "a/b/c/d/e/f/g", strings.Repeat("n/", 80) + "n"} {
		add(api.ErrPath, func(r *api.Record) { r.Path = p })
	}
	for _, n := range []int{0, 4, -1, 255, 256, 257, 258, 259, 1<<32 + 1, math.MaxInt, math.MinInt, math.MinInt + 1} {
		add(api.ErrKind, func(r *api.Record) { r.Kind = n })
	}
	for _, n := range []int{0, -1, 17, 32, 256, 257, 1<<32 + 1, math.MaxInt, math.MinInt, math.MinInt + 1} {
		add(api.ErrArg, func(r *api.Record) { r.By = n })
	}
	for _, n := range []int64{-1, api.MaxTime + 1, 1<<32 + 7, math.MaxInt64, math.MinInt64} {
		add(api.ErrArg, func(r *api.Record) { r.Time = n })
	}
	for _, n := range []int64{-1, 1<<62 + 1, math.MaxInt64, math.MinInt64} {
		add(api.ErrArg, func(r *api.Record) { r.Seq = n })
	}
	for _, n := range []int{-1, 8, 9, 16, 128, 256, math.MaxInt, math.MinInt} {
		add(api.ErrArg, func(r *api.Record) { r.Flags = n })
	}
	add(api.ErrArg, func(r *api.Record) { r.Vector = api.Vector{} })
	for _, n := range []int{-1, -16, 4097, 8192, 1 << 16, 1<<32 + 3, math.MaxInt, math.MinInt} {
		add(api.ErrForm, func(r *api.Record) { r.Size = n })
		add(api.ErrForm, func(r *api.Record) { r.Size, r.BlockSize, r.Blocks = n, 0, nil })
		add(api.ErrForm, func(r *api.Record) { r.BlockSize = n })
	}
	add(api.ErrForm, func(r *api.Record) { r.Blocks = make([]api.Hash, 33) })
	add(api.ErrForm, func(r *api.Record) { r.Target = strings.Repeat("t", 161) })
	return l
}

// P6.1: of each record all that is wrong; of several errors the one that stands first.
func TestCheckErrors(t *testing.T) {
	order := []api.Errno{api.ErrPath, api.ErrKind, api.ErrArg, api.ErrForm}
	l := wrongs()
	for _, r := range []api.Record{fileOf(3), fileOf(0), fileOf(4096), aDir(), aLink("t"), gone(api.KFile), gone(api.KDir), gone(api.KLink)} {
		for i, err := range order {
			for _, change := range l[err] {
				wrong := with(r, change)
				check(t, "one thing is wrong", wrong, err)
				for _, later := range order[i+1:] {
					for _, more := range l[later] {
						check(t, "two things are wrong", with(wrong, more), err)
					}
				}
			}
		}
	}
}

// P6.1: of a file the block size and the number of blocks are those of its bytes.
func TestCheckBlocks(t *testing.T) {
	for _, n := range edges {
		for _, size := range []int{-16, 0, 1, 8, 15, 17, 16, 32, 64, 128, 256, 4096} {
			want := api.ErrForm
			if size == block.Size(n) {
				want = api.OK
			}
			check(t, "BlockSize", with(fileOf(n), func(r *api.Record) { r.BlockSize = size }), want)
		}
		for count := range 35 {
			want := api.ErrForm
			if count == block.Count(n) {
				want = api.OK
			}
			check(t, "Blocks", with(fileOf(n), func(r *api.Record) { r.Blocks = make([]api.Hash, count) }), want)
		}
		check(t, "a file with a target", with(fileOf(n), func(r *api.Record) { r.Target = "t" }), api.ErrForm)
		check(t, "a file that is gone", with(fileOf(n), func(r *api.Record) { r.Deleted = true }), api.ErrForm)
	}
}

// P6.1: what is no file has nothing of one, and what is no link no target.
func TestCheckLeftOver(t *testing.T) {
	for _, r := range []api.Record{aDir(), aLink("t"), gone(api.KFile), gone(api.KDir), gone(api.KLink)} {
		check(t, "Size", with(r, func(r *api.Record) { r.Size = 1 }), api.ErrForm)
		check(t, "BlockSize", with(r, func(r *api.Record) { r.BlockSize = 16 }), api.ErrForm)
		check(t, "Blocks", with(r, func(r *api.Record) { r.Blocks = make([]api.Hash, 1) }), api.ErrForm)
		check(t, "all of a file", withKind(withSize(r, 3), r.Kind), api.ErrForm)
		if r.Kind != api.KLink || r.Deleted {
			check(t, "Target", with(r, func(r *api.Record) { r.Target = "t" }), api.ErrForm)
		}
	}
	for n, want := range map[int]api.Errno{0: api.ErrForm, 1: api.OK, 2: api.OK, 159: api.OK, 160: api.OK, 161: api.ErrForm, 1 << 16: api.ErrForm, 1<<16 + 1: api.ErrForm} {
		check(t, "a link of "+strconv.Itoa(n)+" bytes", aLink(strings.Repeat("t", n)), want)
	}
}

func withKind(r api.Record, kind int) api.Record {
	r.Kind = kind
	return r
}

// rungs are what tells who wins, one behind the other: of each, changes by which a record comes to be the lesser and the greater one.
func rungs() [][2]func(r *api.Record) {
	times := func(less, more int64) [2]func(r *api.Record) {
		return [2]func(r *api.Record){func(r *api.Record) { r.Time = less }, func(r *api.Record) { r.Time = more }}
	}
	return [][2]func(r *api.Record){
		{func(r *api.Record) { r.Vector[15]++ }, func(r *api.Record) { r.Vector[15] += 2 }},
		{func(r *api.Record) { r.Deleted = true }, func(r *api.Record) { r.Deleted = false }},
		times(5, 6),
		{func(r *api.Record) { r.Vector[9]++ }, func(r *api.Record) { r.Vector[3]++ }},
		{func(r *api.Record) { r.Kind = 1 }, func(r *api.Record) { r.Kind = 2 }},
		{func(r *api.Record) { r.Size = 100 }, func(r *api.Record) { r.Size = 101 }},
		{func(r *api.Record) {}, func(r *api.Record) { r.Blocks = append(r.Blocks, api.Hash{}) }},
		{func(r *api.Record) { r.Blocks[1][30] = 1 }, func(r *api.Record) { r.Blocks[1][30] = 200 }},
		{func(r *api.Record) { r.Target = "t" }, func(r *api.Record) { r.Target = "tt" }},
	}
}

// P6.2: each thing tells, if nothing ahead of it does, whatever stands behind it.
func TestCmpRungs(t *testing.T) {
	base := api.Record{Vector: vectorOf(3, 0, 1), Blocks: []api.Hash{{1}, {2}, {3}}}
	ladder := rungs()
	for i, rung := range ladder {
		for _, behind := range []int{0, 1} { // whether what stands behind says the other way round, or the same
			a, b := with(base, rung[0]), with(base, rung[1])
			for _, later := range ladder[i+1:] {
				a, b = with(a, later[1-behind]), with(b, later[behind])
			}
			if record.Cmp(a, b) != -1 || record.Cmp(b, a) != 1 || winner(a, b) != -1 {
				t.Errorf("thing %d: %d, %d", i, record.Cmp(a, b), record.Cmp(b, a))
			}
		}
	}
}

// P6.2: each counter, each byte of a block, and targets by bytes, of which a beginning is less.
func TestCmpWithin(t *testing.T) {
	less := func(what string, a, b api.Record) {
		t.Helper()
		if record.Cmp(a, b) != -1 || record.Cmp(b, a) != 1 || record.Cmp(a, a) != 0 || record.Cmp(b, b) != 0 {
			t.Errorf("%s: %d, %d", what, record.Cmp(a, b), record.Cmp(b, a))
		}
	}
	all := api.Vector{}
	for i := range all {
		all[i] = math.MaxUint32
	}
	for i := range all {
		less("a sum that no 32 bits hold", api.Record{Vector: counter(16, math.MaxUint32)}, api.Record{Vector: func() api.Vector { v := all; v[i] = 0; return v }()})
		less("the greatest sum", api.Record{Vector: func() api.Vector { v := all; v[i]--; return v }()}, api.Record{Vector: all})
		for j := range i {
			less("first counter", api.Record{Vector: counter(i+1, 1<<31+5)}, api.Record{Vector: counter(j+1, 1<<31+5)})
		}
	}
	for i := range 32 {
		x, y := api.Hash{31: 77}, api.Hash{}
		x[i], y[i] = 1, 255
		less("a byte of a block", api.Record{Blocks: []api.Hash{{9}, x, {9}}}, api.Record{Blocks: []api.Hash{{9}, y, {8}}})
		less("more blocks", api.Record{Blocks: slices.Repeat([]api.Hash{{255}}, i)}, api.Record{Blocks: make([]api.Hash, i+1)})
	}
	targets := []string{"", "\x00", "A", "Z", "a", "a\x00", "a-", "a/", "a0", "aa", "b", "\x7f", "\x80", "é", "\xff", "\xff\xff"}
	for i, x := range targets {
		for _, y := range targets[i+1:] {
			less("targets", api.Record{Target: x}, api.Record{Target: y})
		}
	}
	numbers := []int{math.MinInt, -1, 0, 1, 1 << 32, math.MaxInt}
	for i, x := range numbers {
		for _, y := range numbers[i+1:] {
			less("times", api.Record{Time: int64(x)}, api.Record{Time: int64(y)})
			less("kinds", api.Record{Kind: x}, api.Record{Kind: y})
			less("sizes", api.Record{Size: x}, api.Record{Size: y})
		}
	}
}

// P6.2: nothing else tells.
func TestCmpSame(t *testing.T) {
	for _, r := range []api.Record{fileOf(40), aDir(), aLink("t"), gone(api.KFile)} {
		for what, change := range map[string]func(r *api.Record){
			"Path": func(r *api.Record) { r.Path = "z/z" }, "By": func(r *api.Record) { r.By = 16 }, "BlockSize": func(r *api.Record) { r.BlockSize = 256 },
			"Seq": func(r *api.Record) { r.Seq = 99 }, "Flags": func(r *api.Record) { r.Flags = 7 }, "nothing": func(r *api.Record) {},
		} {
			other := with(r, change)
			if record.Cmp(r, other) != 0 || record.Cmp(other, r) != 0 {
				t.Errorf("%s tells: %d", what, record.Cmp(r, other))
			}
		}
	}
	if record.Cmp(api.Record{}, api.Record{Blocks: []api.Hash{}}) != 0 {
		t.Error("an empty list is not as none")
	}
}

// P6.5: there is one order, and what neither wins has one Version and one Content.
func TestCmpOrder(t *testing.T) {
	r := rand.New(rand.NewSource(61))
	ties := 0
	for range 300000 {
		a, b, c := near(r), near(r), near(r)
		if r.Intn(20) == 0 {
			b = with(a, func(x *api.Record) { x.Path, x.By, x.Seq, x.Flags = "z", 9, 9, 1 })
		}
		got := record.Cmp(a, b)
		if got != winner(a, b) || record.Cmp(b, a) != -got {
			t.Fatalf("%v, %v: %d, not %d; %d", a, b, got, winner(a, b), record.Cmp(b, a))
		}
		if got >= 0 && record.Cmp(b, c) >= 0 && record.Cmp(a, c) < max(got, record.Cmp(b, c)) {
			t.Fatalf("%v, %v, %v: no order", a, b, c)
		}
		if got == 0 {
			ties++
			if !record.Version(a, b) || !record.Content(a, b) {
				t.Fatalf("%v, %v: neither wins", a, b)
			}
		}
	}
	if ties < 10000 {
		t.Errorf("only %d of which neither wins", ties)
	}
}

// P6.5: what dominates wins, whatever else says.
func TestCmpDominates(t *testing.T) {
	r := rand.New(rand.NewSource(62))
	for range 20000 {
		a, b := randomRecord(r), randomRecord(r)
		b.Vector = a.Vector
		rises := false
		for range 1 + r.Intn(3) {
			i := r.Intn(api.MaxDevices)
			if room := math.MaxUint32 - int64(b.Vector[i]); room > 0 {
				b.Vector[i] += uint32(1 + r.Int63n(room))
				rises = true
			}
		}
		if rises && (record.Cmp(a, b) != -1 || record.Cmp(b, a) != 1) {
			t.Fatalf("%v dominates %v: %d", b, a, record.Cmp(b, a))
		}
	}
}

// P6.2: the first one that no other one wins against; P6.5: in whatever order they stand.
func TestBest(t *testing.T) {
	r := rand.New(rand.NewSource(63))
	for range 20000 {
		l := make([]api.Record, r.Intn(7))
		for i := range l {
			l[i] = near(r)
			l[i].Path = strconv.Itoa(i)
		}
		want := slices.IndexFunc(l, func(x api.Record) bool {
			return !slices.ContainsFunc(l, func(y api.Record) bool { return winner(y, x) > 0 })
		})
		got := record.Best(l...)
		if got != want {
			t.Fatalf("Best(%v) = %d, not %d", l, got, want)
		}
		if len(l) == 0 {
			continue
		}
		best := l[got]
		r.Shuffle(len(l), func(i, j int) { l[i], l[j] = l[j], l[i] })
		if again := l[record.Best(l...)]; record.Cmp(best, again) != 0 {
			t.Fatalf("in another order %v is best, not %v", again, best)
		}
	}
	if got := record.Best([]api.Record{}...); got != -1 {
		t.Errorf("Best of an empty list = %d", got)
	}
	x := fileOf(3)
	if got := record.Best(x); got != 0 {
		t.Errorf("Best of one = %d", got)
	}
	if got := record.Best(x, x, x); got != 0 {
		t.Errorf("Best of the same ones = %d", got)
	}
	if got := record.Best(api.Record{}, x, x, api.Record{}); got != 1 {
		t.Errorf("Best = %d", got)
	}
}

// P6.3: which fields each of the three looks at.
func TestSame(t *testing.T) {
	r := fileOf(40)
	r.Target = "t" // so that each field has something
	for _, x := range []struct {
		what                   string
		change                 func(r *api.Record)
		version, content, same bool
	}{
		{"nothing", func(r *api.Record) {}, true, true, true},
		{"Path", func(r *api.Record) { r.Path = "b" }, true, true, false},
		{"Kind", func(r *api.Record) { r.Kind = api.KDir }, true, false, false},
		{"Deleted", func(r *api.Record) { r.Deleted = true }, false, false, false},
		{"Size", func(r *api.Record) { r.Size = 41 }, true, false, false},
		{"Time", func(r *api.Record) { r.Time = 8 }, true, true, false},
		{"By", func(r *api.Record) { r.By = 2 }, true, true, false},
		{"Vector", func(r *api.Record) { r.Vector[15]++ }, false, true, false},
		{"Vector, of like sum", func(r *api.Record) { r.Vector = counter(2, 7) }, false, true, false},
		{"BlockSize", func(r *api.Record) { r.BlockSize = 32 }, true, true, false},
		{"a block", func(r *api.Record) { r.Blocks[2][31]++ }, true, false, false},
		{"fewer blocks", func(r *api.Record) { r.Blocks = r.Blocks[:2] }, true, false, false},
		{"blocks in another order", func(r *api.Record) { slices.Reverse(r.Blocks) }, true, false, false},
		{"no blocks", func(r *api.Record) { r.Blocks = nil }, true, false, false},
		{"Target", func(r *api.Record) { r.Target = "u" }, true, false, false},
		{"no Target", func(r *api.Record) { r.Target = "" }, true, false, false},
		{"Seq", func(r *api.Record) { r.Seq = 5 }, true, true, true},
		{"Flags", func(r *api.Record) { r.Flags = api.FlagLocal }, true, true, false},
	} {
		a, b := r, with(r, x.change)
		for range 2 {
			if got := record.Version(a, b); got != x.version {
				t.Errorf("%s: Version = %t", x.what, got)
			}
			if got := record.Content(a, b); got != x.content {
				t.Errorf("%s: Content = %t", x.what, got)
			}
			if got := record.Same(a, b); got != x.same {
				t.Errorf("%s: Same = %t", x.what, got)
			}
			a, b = b, a
		}
	}
	none, empty := aDir(), with(aDir(), func(r *api.Record) { r.Blocks = []api.Hash{} })
	if !record.Content(none, empty) || !record.Same(none, empty) {
		t.Error("an empty list is not as none")
	}
}

// P6.4: Put against bytes that the library writes; what it has is ahead of them, and not written to. P6.6: Get of Put is the record.
func TestPutAndGet(t *testing.T) {
	r := rand.New(rand.NewSource(64))
	for range 5000 {
		x := randomRecord(r)
		kept := with(x, func(*api.Record) {})
		begin := make([]byte, r.Intn(5))
		r.Read(begin)
		part, all := roomy(begin)
		got, err := record.Put(part, x)
		want := append(slices.Clone(begin), bytesOf(x)...)
		if !bytes.Equal(got, want) || err != api.OK {
			t.Fatalf("Put(%x, %v) = %x, %d, not %x", begin, x, got, err, want)
		}
		if _, fresh := roomy(begin); !bytes.Equal(all, fresh) {
			t.Fatalf("Put(%x, %v) writes to what is handed in", begin, x)
		}
		if !alike(x, kept) {
			t.Fatalf("Put changes %v to %v", kept, x)
		}
		clear(all)
		if !bytes.Equal(got, want) {
			t.Fatal("what Put answers shares memory with what is handed in")
		}
		own := got[len(begin):]
		back, err := record.Get(own)
		if !alike(back, x) || err != api.OK {
			t.Fatalf("Get(%x) = %v, %d, not %v", own, back, err, x)
		}
		clear(got)
		if !alike(back, x) {
			t.Fatalf("what Get answers shares memory with what is handed in")
		}
	}
}

// P6.4: a record's error is Put's, and there are no bytes.
func TestPutErrors(t *testing.T) {
	for err, l := range wrongs() {
		for _, change := range l {
			part, all := roomy([]byte("xy"))
			if got, e := record.Put(part, with(fileOf(40), change)); len(got) != 0 || e != err {
				t.Errorf("Put = %x, %d, not %d", got, e, err)
			}
			if _, fresh := roomy([]byte("xy")); !bytes.Equal(all, fresh) {
				t.Error("Put writes to what is handed in")
			}
		}
	}
}

func getsNone(t *testing.T, what string, b []byte) {
	t.Helper()
	if got, err := record.Get(b); !isZero(got) || err != api.ErrForm {
		t.Errorf("%s: Get(%x) = %v, %d", what, b, got, err)
	}
	l := tape.NewTape(b)
	if got := record.Take(l); l.Err() != api.OK && !isZero(got) || l.End() == api.OK {
		t.Errorf("%s: Take of %x = %v, %d", what, b, got, l.Err())
	}
}

// P6.6: cut anywhere it is none; and none with more behind it.
func TestGetCut(t *testing.T) {
	r := rand.New(rand.NewSource(65))
	l := []api.Record{fileOf(0), fileOf(3), fileOf(4096), aDir(), aLink("t"), aLink(strings.Repeat("t", 160)), gone(api.KFile)}
	for range 20 {
		l = append(l, randomRecord(r))
	}
	for _, x := range l {
		b := bytesOf(x)
		for cut := range b {
			getsNone(t, "cut", b[:cut])
			if cut > 0 {
				getsNone(t, "cut ahead", b[cut:])
			}
		}
		for _, more := range [][]byte{{0}, {255}, b} {
			getsNone(t, "with more behind it", slices.Concat(b, more))
		}
	}
	getsNone(t, "nil", nil)
}

// P6.6: what is got of any bytes is put as just those.
func TestGetAnyBytes(t *testing.T) {
	r := rand.New(rand.NewSource(66))
	got := 0
	try := func(b []byte) {
		x, err := record.Get(b)
		if err != api.OK {
			getsNone(t, "any", b)
			return
		}
		got++
		if record.Check(x) != api.OK {
			t.Fatalf("Get(%x) = %v, that may not be", b, x)
		}
		if again, err := record.Put(nil, x); !bytes.Equal(again, b) || err != api.OK {
			t.Fatalf("Get(%x) = %v, that is put as %x", b, x, again)
		}
	}
	for range 300 {
		b := bytesOf(randomRecord(r))
		for i := range min(len(b), 300) {
			other := slices.Clone(b)
			other[i] ^= 1 << r.Intn(8)
			try(other)
			other[i] = byte(r.Intn(256))
			try(other)
			try(slices.Delete(slices.Clone(b), i, i+1))
			try(slices.Insert(slices.Clone(b), i, byte(r.Intn(4))))
		}
	}
	for range 20000 {
		b := make([]byte, r.Intn(60))
		for i := range b {
			b[i] = byte(r.Intn(256) >> r.Intn(9))
		}
		try(b)
	}
	if got < 10000 {
		t.Errorf("only %d are got", got)
	}
}

// vectorBytes answers the bytes of the directory d, with these as those of its vector.
func vectorBytes(l ...byte) []byte {
	b := bytesOf(aDir())
	return slices.Concat(b[:10], l, b[16:])
}

// P6.4: a vector has one form alone: devices rise, and no counter is 0.
func TestGetVector(t *testing.T) {
	many := []byte{16}
	for dev := range byte(16) {
		many = append(many, dev+1, 0, 0, 0, dev+1)
	}
	for what, l := range map[string][]byte{"one": {1, 3, 0, 0, 0, 1}, "the last device": {1, 16, 255, 255, 255, 255}, "two": {2, 1, 0, 0, 0, 1, 2, 0, 0, 0, 9}, "all": many} {
		b := vectorBytes(l...)
		x, err := record.Get(b)
		if err != api.OK {
			t.Errorf("%s: Get = %d", what, err)
		}
		if again, _ := record.Put(nil, x); !bytes.Equal(again, b) {
			t.Errorf("%s: put as %x, not %x", what, again, b)
		}
	}
	for what, l := range map[string][]byte{
		"none":              {0},
		"device 0":          {1, 0, 0, 0, 0, 1},
		"device 17":         {1, 17, 0, 0, 0, 1},
		"device 255":        {1, 255, 0, 0, 0, 1},
		"counter 0":         {1, 3, 0, 0, 0, 0},
		"counter 0 beside":  {2, 3, 0, 0, 0, 1, 4, 0, 0, 0, 0},
		"falling":           {2, 4, 0, 0, 0, 1, 3, 0, 0, 0, 1},
		"twice":             {2, 3, 0, 0, 0, 1, 3, 0, 0, 0, 1},
		"too many":          append(append([]byte{17}, many[1:]...), 16, 0, 0, 0, 16),
		"255":               append([]byte{255}, many[1:]...),
		"fewer than it has": {2, 3, 0, 0, 0, 1},
		"more than it has":  {1, 3, 0, 0, 0, 1, 4, 0, 0, 0, 1},
	} {
		getsNone(t, what, vectorBytes(l...))
	}
}

// P6.4: the bytes of what may not be are no record's.
func TestGetWrong(t *testing.T) {
	for what, change := range map[string]func(r *api.Record){
		"no path": func(r *api.Record) { r.Path = "" }, "path a//b": func(r *api.Record) { r.Path = "a//b" }, "long path": func(r *api.Record) { r.Path = strings.Repeat("n/", 80) + "n" },
		"Kind 0": func(r *api.Record) { r.Kind = 0 }, "Kind 4": func(r *api.Record) { r.Kind = 4 }, "Kind 255": func(r *api.Record) { r.Kind = 255 },
		"Flags 8": func(r *api.Record) { r.Flags = 8 }, "Flags 127": func(r *api.Record) { r.Flags = 127 }, "Flags 64": func(r *api.Record) { r.Flags = 64 },
		"By 0": func(r *api.Record) { r.By = 0 }, "By 17": func(r *api.Record) { r.By = 17 }, "By 255": func(r *api.Record) { r.By = 255 },
		"Vector": func(r *api.Record) { r.Vector = api.Vector{} },
		"Seq":    func(r *api.Record) { r.Seq = 1<<62 + 1 }, "Seq at most": func(r *api.Record) { r.Seq = math.MaxInt64 }, "Seq below 0": func(r *api.Record) { r.Seq = -1 }, "Seq far below 0": func(r *api.Record) { r.Seq = math.MinInt64 },
	} {
		for _, r := range []api.Record{fileOf(0), fileOf(40), aDir(), aLink("t"), gone(api.KFile)} {
			getsNone(t, what, bytesOf(with(r, change)))
		}
	}
	for what, r := range map[string]api.Record{
		"a directory with a size": with(aDir(), func(r *api.Record) { r.Size = 1 }), "a directory with a target": with(aDir(), func(r *api.Record) { r.Target = "t" }),
		"a link with a size": with(aLink("t"), func(r *api.Record) { r.Size = 1 }), "a link without a target": aLink(""), "a link with a long one": aLink(strings.Repeat("t", 161)),
		"a link gone with a target": with(gone(api.KLink), func(r *api.Record) { r.Target = "t" }), "a file gone with a size": with(gone(api.KFile), func(r *api.Record) { r.Size = 1 }),
		"a file gone with blocks": with(fileOf(40), func(r *api.Record) { r.Deleted = true }), "a file with a target": with(fileOf(40), func(r *api.Record) { r.Target = "t" }),
		"a file too long": with(fileOf(4096), func(r *api.Record) { r.Size = 4097 }), "a long file without blocks": with(fileOf(0), func(r *api.Record) { r.Size = 4097 }), "the longest": with(fileOf(0), func(r *api.Record) { r.Size = 65535 }),
		"a file without blocks": with(fileOf(40), func(r *api.Record) { r.Blocks = nil }), "a file with a block too few": with(fileOf(40), func(r *api.Record) { r.Blocks = r.Blocks[1:] }), "a file with a block too many": with(fileOf(40), func(r *api.Record) { r.Blocks = append(r.Blocks, api.Hash{}) }),
	} {
		getsNone(t, what, bytesOf(r))
	}
}

// P6.4: Take takes one record alone, and leaves what stands behind it; what is none tears the tape for good.
func TestTake(t *testing.T) {
	r := rand.New(rand.NewSource(67))
	for range 300 {
		l := make([]api.Record, r.Intn(5))
		var b []byte
		for i := range l {
			l[i] = randomRecord(r)
			b, _ = record.Put(b, l[i])
		}
		from := tape.NewTape(append(slices.Clone(b), "end"...))
		left := len(b) + 3
		for i, want := range l {
			left -= len(bytesOf(want))
			if got := record.Take(from); !alike(got, want) || from.Err() != api.OK || from.Left() != left {
				t.Fatalf("record %d: Take = %v, %d, not %v; %d bytes are left, not %d", i, got, from.Err(), want, from.Left(), left)
			}
		}
		for range 2 {
			if got := record.Take(from); !isZero(got) || from.Err() != api.ErrForm || from.Left() > 3 {
				t.Fatalf("of what is none: Take = %v, %d", got, from.Err())
			}
		}
	}
}

// P6.4: each record is taken as a thing of a row.
func TestTakeRow(t *testing.T) {
	l := []api.Record{fileOf(40), aDir(), aLink("t"), gone(api.KDir)}
	b, err := tape.PutRow([]byte{}, l, record.Put)
	if err != api.OK {
		t.Fatalf("PutRow = %d", err)
	}
	from := tape.NewTape(b)
	if got := tape.Row(from, 4, record.Take); !slices.EqualFunc(got, l, alike) || from.End() != api.OK {
		t.Errorf("Row = %v", got)
	}
	from = tape.NewTape(b[:len(b)-1])
	if got := tape.Row(from, 4, record.Take); len(got) != 0 || from.Err() != api.ErrForm {
		t.Errorf("cut: Row = %v, %d", got, from.Err())
	}
	l[2].By = 0
	if got, err := tape.PutRow(nil, l, record.Put); len(got) != 0 || err != api.ErrArg {
		t.Errorf("PutRow = %x, %d", got, err)
	}
}

// P6.4: of a nil tape, of one that NewTape did not make, and of one that is torn, though a record stands there.
func TestTakeOfNone(t *testing.T) {
	torn := tape.NewTape(bytesOf(aDir()))
	torn.Tear()
	for what, from := range map[string]*tape.Tape{"nil": nil, "zero": {}, "torn": torn} {
		before, left := from.Err(), from.Left()
		if got := record.Take(from); !isZero(got) || from.Err() != before || from.Left() != left {
			t.Errorf("%s: Take = %v, %d, %d", what, got, from.Err(), from.Left())
		}
	}
}

// Two records of one tape share no memory, and nothing that is taken hangs on the bytes of the tape.
func TestTakeIsNew(t *testing.T) {
	x := fileOf(40)
	b, _ := record.Put(nil, x)
	b, _ = record.Put(b, x)
	from := tape.NewTape(b)
	first := record.Take(from)
	second := record.Take(from)
	clear(first.Blocks)
	first.Blocks = append(first.Blocks, api.Hash{1})
	if !alike(second, x) {
		t.Errorf("the second one is %v, not %v", second, x)
	}
}
