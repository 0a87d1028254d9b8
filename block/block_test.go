package block_test

import (
	"bytes"
	"crypto/sha256"
	"maps"
	"math"
	"math/rand"
	"slices"
	"strings"
	"testing"

	"caravan/api"
	"caravan/block"
)

// noLengths are no file's: below 0, too long, and some that are a file's, if some of their bits are lost.
var noLengths = []int{-1, -2, -16, -4096, -4097, 4097, 4098, 8192, 1 << 16, 1<<16 + 1, 1 << 20, math.MaxInt32, math.MinInt32, 1<<32 + 1, 1 << 40, math.MaxInt, math.MaxInt - 1, math.MinInt, math.MinInt + 1}

// edges are the lengths around those at which the block size or the number of blocks becomes another one.
var edges = []int{0, 1, 2, 15, 16, 17, 31, 32, 33, 40, 511, 512, 513, 543, 544, 545, 1023, 1024, 1025, 1087, 1088, 1089, 2047, 2048, 2049, 2175, 2176, 2177, 4095, 4096}

// noise answers n bytes that look like no pattern, always the same ones of a seed.
func noise(n int, seed int64) []byte {
	out := make([]byte, n)
	rand.New(rand.NewSource(seed)).Read(out)
	return out
}

// digest is that of some bytes, by the library.
func digest(b []byte) api.Hash { return sha256.Sum256(b) }

func digestOf(s string) api.Hash { return digest([]byte(s)) }

// times answers a text n times.
func times(n int, s string) string { return strings.Repeat(s, n) }

// sizeOf is the block size of a file of n bytes, told by the words of the chapter.
func sizeOf(n int) int {
	for _, size := range []int{16, 32, 64, 128, 256} {
		if 0 <= n && n <= 4096 && size*32 >= n {
			return size
		}
	}
	return 0
}

// cut answers the blocks of a file, by the library; none of what is too long.
func cut(data []byte) [][]byte {
	size := sizeOf(len(data))
	if size == 0 {
		return nil
	}
	return slices.Collect(slices.Chunk(data, size))
}

// listOf answers the digests of a file's blocks, by the library.
func listOf(data []byte) []api.Hash {
	var l []api.Hash
	for _, part := range cut(data) {
		l = append(l, digest(part))
	}
	return l
}

// roomy answers bytes with room for many more behind them, and all of that memory.
func roomy(b []byte) (part, all []byte) {
	all = slices.Repeat([]byte{0xee}, len(b)+200)
	copy(all, b)
	return all[:len(b)], all
}

// files is what a finder has, by names.
type files map[string]string

// find is P5.4: it looks through all files, by names.
func (l files) find(h api.Hash) (string, block.Place, bool) {
	for _, name := range slices.Sorted(maps.Keys(l)) {
		for i, part := range cut([]byte(l[name])) {
			if digest(part) == h {
				return string(part), block.Place{Name: name, Block: i}, true
			}
		}
	}
	return "", block.Place{}, false
}

// finder answers one that has these files, and no others.
func (l files) finder(t *testing.T) *block.Finder {
	t.Helper()
	f := block.NewFinder()
	for name, data := range l {
		add(t, f, name, data)
	}
	return f
}

func add(t *testing.T, f *block.Finder, name, data string) {
	t.Helper()
	if err := f.Add(name, []byte(data)); err != api.OK {
		t.Errorf("Add(%q, %d bytes) = %d", name, len(data), err)
	}
}

func forget(t *testing.T, f *block.Finder, name string, want bool) {
	t.Helper()
	if got := f.Forget(name); got != want {
		t.Errorf("Forget(%q) = %t", name, got)
	}
}

// finds tells that a block is found just there.
func finds(t *testing.T, f *block.Finder, data, name string, i int) {
	t.Helper()
	got, place, ok := f.Find(digestOf(data))
	if string(got) != data || place != (block.Place{Name: name, Block: i}) || !ok {
		t.Errorf("Find of %d bytes %.9q = %d bytes %.9q, %v, %t, not at (%q, %d)", len(data), data, len(got), got, place, ok, name, i)
	}
}

// findsNone tells that nothing is found, and that all that is answered is zero.
func findsNone(t *testing.T, f *block.Finder, h api.Hash) {
	t.Helper()
	if got, place, ok := f.Find(h); len(got) != 0 || place != (block.Place{}) || ok {
		t.Errorf("Find(%x) = %q, %v, %t", h, got, place, ok)
	}
}

// has tells that a finder has these files, and no others: it finds their blocks, and none of those.
func (l files) has(t *testing.T, f *block.Finder, asked []api.Hash) {
	t.Helper()
	if f.Len() != len(l) {
		t.Errorf("Len = %d, not %d", f.Len(), len(l))
	}
	for _, data := range l {
		asked = append(asked, listOf([]byte(data))...)
	}
	for _, h := range asked {
		want, at, there := l.find(h)
		got, place, ok := f.Find(h)
		if string(got) != want || place != at || ok != there {
			t.Errorf("Find(%x) = %q, %v, %t, not %q, %v, %t", h, got, place, ok, want, at, there)
		}
	}
}

// The chapter's examples.
func TestExamples(t *testing.T) {
	for n, want := range map[int]int{0: 16, 1: 16, 512: 16, 513: 32, 1024: 32, 2048: 64, 4096: 128, 4097: 0, -1: 0} {
		if got := block.Size(n); got != want {
			t.Errorf("Size(%d) = %d", n, got)
		}
	}
	for n, want := range map[int]int{0: 0, 1: 1, 16: 1, 17: 2, 512: 32, 513: 17, 4096: 32, 4097: 0} {
		if got := block.Count(n); got != want {
			t.Errorf("Count(%d) = %d", n, got)
		}
	}
	for i, want := range map[int]string{0: "abcdefghijklmnop", 1: "q", 2: "", -1: ""} {
		if got := block.Part([]byte("abcdefghijklmnopq"), i); string(got) != want {
			t.Errorf("Part(%d) = %q", i, got)
		}
	}
	x, y := times(16, "x"), times(16, "y")
	f := block.NewFinder()
	add(t, f, "b", x)
	add(t, f, "a", y+x)
	finds(t, f, x, "a", 1)
	forget(t, f, "a", true)
	finds(t, f, x, "b", 0)
}

// P5.1: of each length, and of what is none.
func TestSizeAndCount(t *testing.T) {
	for n := -200; n <= 5000; n++ {
		size, count := sizeOf(n), 0
		for at := 0; size > 0 && at < n; at += size {
			count++
		}
		if got := block.Size(n); got != size {
			t.Errorf("Size(%d) = %d, not %d", n, got, size)
		}
		if got := block.Count(n); got != count {
			t.Errorf("Count(%d) = %d, not %d", n, got, count)
		}
	}
	for _, n := range noLengths {
		if size, count := block.Size(n), block.Count(n); size != 0 || count != 0 {
			t.Errorf("of %d: Size = %d, Count = %d", n, size, count)
		}
	}
}

// P5.1, P5.5: each block of files of each length.
func TestPart(t *testing.T) {
	all := noise(api.MaxFile, 1)
	for n := range api.MaxFile + 1 {
		want := cut(all[:n])
		if block.Count(n) != len(want) || len(want) > api.MaxBlocks {
			t.Fatalf("of %d bytes: %d blocks, not %d", n, block.Count(n), len(want))
		}
		var joined []byte
		for i, part := range want {
			got := block.Part(all[:n], i)
			if !bytes.Equal(got, part) || i < len(want)-1 && len(got) != block.Size(n) {
				t.Fatalf("of %d bytes: Part(%d) = %x, not %x", n, i, got, part)
			}
			joined = append(joined, got...)
		}
		if !bytes.Equal(joined, all[:n]) {
			t.Fatalf("of %d bytes: joined: %x", n, joined)
		}
	}
}

// P5.1: blocks that no file has.
func TestPartOfNone(t *testing.T) {
	places := []int{-1, -2, -16, -32, -128, math.MinInt32, math.MinInt, math.MinInt + 1, 32, 33, 64, 255, 256, 257, 1 << 16, math.MaxInt32, 1 << 32, 1<<32 + 1, 1 << 58, 1 << 60, 1 << 62, math.MaxInt - 1, math.MaxInt}
	all := noise(1<<16, 2)
	for _, n := range edges {
		count := block.Count(n)
		for _, i := range append(places, count, count+1) {
			if got := block.Part(all[:n], i); len(got) != 0 {
				t.Errorf("of %d bytes: Part(%d) = %x", n, i, got)
			}
		}
	}
	for _, n := range []int{4097, 4098, 8192, 1 << 16} {
		for _, i := range append(places, 0, 1, 2, 15, 16, 31) {
			if got := block.Part(all[:n], i); len(got) != 0 {
				t.Errorf("of %d bytes, too many: Part(%d) = %x", n, i, got)
			}
		}
	}
	for i := -2; i < 3; i++ {
		if got := block.Part(nil, i); len(got) != 0 {
			t.Errorf("of no bytes: Part(%d) = %x", i, got)
		}
	}
}

// P5.2, P5.5: the list of files of each length.
func TestList(t *testing.T) {
	all := noise(api.MaxFile, 3)
	for n := range api.MaxFile + 1 {
		got, err := block.List(all[:n])
		if !slices.Equal(got, listOf(all[:n])) || err != api.OK {
			t.Fatalf("of %d bytes: List = %x, %d", n, got, err)
		}
	}
	if got, err := block.List(nil); len(got) != 0 || err != api.OK {
		t.Errorf("of nil: List = %x, %d", got, err)
	}
	for _, n := range edges {
		data := all[:n]
		l, _ := block.List(data)
		for i, h := range l {
			if !block.Verify(block.Part(data, i), h) {
				t.Errorf("of %d bytes: the block %d and its digest are not of each other", n, i)
			}
		}
	}
}

// P5.2: of too many bytes.
func TestListErrLong(t *testing.T) {
	all := noise(1<<16+4096, 4)
	for _, n := range []int{4097, 4098, 4112, 8192, 1 << 16, 1<<16 + 1, 1<<16 + 4096} {
		if got, err := block.List(all[:n]); len(got) != 0 || err != api.ErrLong {
			t.Errorf("of %d bytes: List = %x, %d", n, got, err)
		}
	}
}

// P5.2: of any bytes, more than a file can have too.
func TestVerify(t *testing.T) {
	all := noise(1<<16, 5)
	for _, n := range append(edges, 100, 4097, 5000, 1<<16) {
		data := all[:n]
		h := digest(data)
		if !block.Verify(data, h) {
			t.Errorf("of %d bytes: not of their digest", n)
		}
		for i := range h {
			wrong := h
			wrong[i] ^= 1 << (i % 8)
			if block.Verify(data, wrong) {
				t.Errorf("of %d bytes: of a digest with another byte %d", n, i)
			}
		}
		if block.Verify(data, api.Hash{}) || n > 0 && block.Verify(data[1:], h) || block.Verify(append([]byte{0}, data...), h) {
			t.Errorf("of %d bytes: of what is no digest of theirs", n)
		}
	}
	if !block.Verify(nil, digest(nil)) || block.Verify(nil, api.Hash{}) {
		t.Error("of nil")
	}
}

// P5.3.
func TestFiles(t *testing.T) {
	f := block.NewFinder()
	if f == nil || f.Len() != 0 {
		t.Fatal("NewFinder has files")
	}
	forget(t, f, "a", false)
	findsNone(t, f, digest(nil))
	findsNone(t, f, api.Hash{})
	for i, name := range []string{"a", "", "a/b", "A", "a\x00", "\xff\xfe", "..", times(1000, "n")} {
		forget(t, f, name, false)
		add(t, f, name, name)
		add(t, f, name, name)
		if f.Len() != i+1 {
			t.Errorf("behind %q: Len = %d", name, f.Len())
		}
	}
	for i, name := range []string{"a/b", "", times(1000, "n"), "\xff\xfe", "A"} {
		forget(t, f, name, true)
		forget(t, f, name, false)
		if f.Len() != 7-i {
			t.Errorf("without %q: Len = %d", name, f.Len())
		}
	}
	files{"a": "a", "a\x00": "a\x00", "..": ".."}.has(t, f, []api.Hash{digestOf("a/b"), digestOf("A"), digestOf("\xff\xfe"), digest(nil)})
}

// P5.3: a file of no bytes is one, though it has no block.
func TestEmptyFile(t *testing.T) {
	f := block.NewFinder()
	for i, data := range [][]byte{nil, {}} {
		if err := f.Add("a", data); err != api.OK || f.Len() != 1 {
			t.Errorf("%d: Add = %d, Len = %d", i, err, f.Len())
		}
		findsNone(t, f, digest(nil))
		forget(t, f, "a", true)
		forget(t, f, "a", false)
		add(t, f, "a", "x")
	}
	add(t, f, "a", "")
	files{"a": ""}.has(t, f, []api.Hash{digestOf("x"), digest(nil)})
}

// P5.3: of nil, and of what NewFinder did not make; ErrNil stands ahead of ErrLong.
func TestNoFinder(t *testing.T) {
	for what, f := range map[string]*block.Finder{"nil": nil, "zero": {}, "new": new(block.Finder)} {
		for _, n := range []int{0, 1, 16, 4096, 4097, 1 << 16} {
			data := noise(n, 6)
			if err := f.Add("a", data); err != api.ErrNil {
				t.Errorf("%s: Add of %d bytes = %d", what, n, err)
			}
			findsNone(t, f, digest(data))
		}
		forget(t, f, "a", false)
		forget(t, f, "", false)
		if f.Len() != 0 {
			t.Errorf("%s: Len = %d", what, f.Len())
		}
	}
}

// P5.3: too many bytes change nothing, whether there is a file of that name or not.
func TestAddErrLong(t *testing.T) {
	data := string(noise(api.MaxFile, 7))
	l := files{"a": data, "b": "b"}
	f := l.finder(t)
	long := append([]byte(data), noise(1<<16, 8)...)
	for _, n := range []int{4097, 4098, 8192, len(long)} {
		for _, name := range []string{"a", "b", "c"} {
			if err := f.Add(name, long[:n]); err != api.ErrLong {
				t.Errorf("Add(%s, %d bytes) = %d", name, n, err)
			}
			l.has(t, f, []api.Hash{digest(long[:n]), digest(long[n-1 : n])})
		}
	}
}

// P5.3, P5.4: a file takes the place of the one of its name: nothing is left of that one.
func TestReplaced(t *testing.T) {
	x, y, z := times(16, "x"), times(16, "y"), times(16, "z")
	f := block.NewFinder()
	add(t, f, "a", x+y)
	add(t, f, "b", y+x)
	add(t, f, "a", z+z+x)
	files{"a": z + z + x, "b": y + x}.has(t, f, nil)
	finds(t, f, x, "a", 2)
	finds(t, f, y, "b", 0)
	add(t, f, "a", "short")
	finds(t, f, x, "b", 1)
	findsNone(t, f, digestOf(z))
	forget(t, f, "b", true)
	findsNone(t, f, digestOf(x))
	findsNone(t, f, digestOf(y))
	finds(t, f, "short", "a", 0)
}

// P5.4: the first of its name, byte by byte, in whatever order they came: not as paths are ordered, nor as letters are.
func TestFirstName(t *testing.T) {
	names := []string{"", "\x00", "\n", "A", "Z", "a", "a\x00", "a b", "a!", "a-", "a/b", "a0", "aa", "b", "ba", "é", "日", "\x80", "\xff", "\xff\xff"}
	slices.Sort(names)
	r := rand.New(rand.NewSource(9))
	x := times(16, "x")
	for range 20 {
		f := block.NewFinder()
		for _, i := range r.Perm(len(names)) {
			add(t, f, names[i], names[i]+times(16-len(names[i]), "-")+x)
		}
		for i, name := range names {
			finds(t, f, x, name, 1)
			forget(t, f, name, true)
			if f.Len() != len(names)-1-i {
				t.Errorf("Len = %d", f.Len())
			}
		}
		findsNone(t, f, digestOf(x))
	}
}

// P5.4: of a file the first block, of each size of blocks.
func TestFirstBlock(t *testing.T) {
	for _, size := range []int{16, 32, 64, 128} {
		x, y := times(size, "x"), times(size, "y")
		for first := range 31 {
			data := times(first, y) + times(31-first, x) + y
			f := block.NewFinder()
			add(t, f, "a", data)
			finds(t, f, x, "a", first)
			if first > 0 {
				finds(t, f, y, "a", 0)
			} else {
				finds(t, f, y, "a", 31)
			}
			forget(t, f, "a", true)
			findsNone(t, f, digestOf(x))
			findsNone(t, f, digestOf(y))
		}
	}
}

// P5.4: what is no whole block at its place is not found.
func TestFindNone(t *testing.T) {
	data := string(noise(520, 10)) // blocks of 32 bytes, and 8 that are left
	f := files{"a": data, "b": times(16, "x")}.finder(t)
	for _, part := range []string{"", data, data[:8], data[:16], data[:31], data[:33], data[:64], data[1:33], data[16:48], data[488:520], data[513:], data[512:519], data[512:] + "\x00", times(15, "x"), times(17, "x"), times(32, "x")} {
		findsNone(t, f, digestOf(part))
	}
	finds(t, f, data[:32], "a", 0)
	finds(t, f, data[480:512], "a", 15)
	finds(t, f, data[512:], "a", 16)
	findsNone(t, f, api.Hash{})
	for i := range 32 {
		h := digestOf(data[:32])
		h[i]++
		findsNone(t, f, h)
	}
}

// P5.6: each block of files of all lengths at edges is found, and what is found has the digest asked for.
func TestFindVerifies(t *testing.T) {
	f, l := block.NewFinder(), files{}
	for i, n := range edges {
		name := string(rune('A' + i))
		l[name] = string(noise(n, int64(20+i%3))) // so that files share blocks
		add(t, f, name, l[name])
	}
	l.has(t, f, nil)
	for name, data := range l {
		for i, h := range listOf([]byte(data)) {
			if got, _, ok := f.Find(h); !ok || !block.Verify(got, h) || !bytes.Equal(got, block.Part([]byte(data), i)) {
				t.Errorf("the block %d of %s, of %d bytes: %x, %t", i, name, len(data), got, ok)
			}
		}
	}
}

// P5.3, P5.4: all of it against files that are looked through, whatever is done.
func TestAgainstFiles(t *testing.T) {
	r := rand.New(rand.NewSource(11))
	parts := []string{times(16, "x"), times(16, "y"), times(16, "z"), times(8, "x")}
	var asked []api.Hash
	for _, part := range parts {
		asked = append(asked, digestOf(part), digestOf(part+part), digestOf(part[:1]))
	}
	names := []string{"a", "b", "c", "a/b", ""}
	for range 30 {
		f, l := block.NewFinder(), files{}
		for range 40 {
			name := names[r.Intn(len(names))]
			if r.Intn(3) == 0 {
				_, had := l[name]
				forget(t, f, name, had)
				delete(l, name)
			} else {
				data := ""
				for range r.Intn(40) {
					data += parts[r.Intn(3)]
				}
				l[name] = data + parts[r.Intn(4)][:r.Intn(9)]
				add(t, f, name, l[name])
			}
			l.has(t, f, asked)
			if t.Failed() {
				t.Fatalf("behind %q", name)
			}
		}
	}
}

// P5.6: the order in which files came makes no difference, nor do files that came and went, or were others.
func TestAnyOrder(t *testing.T) {
	x, y, z := times(16, "x"), times(16, "y"), times(16, "z")
	l := files{"a": y + x, "b": x + z + x, "c": z + y, "d": x + y + z + "x"}
	asked := []api.Hash{digestOf(x), digestOf(y), digestOf(z), digestOf("x"), digestOf("y")}
	names := slices.Sorted(maps.Keys(l))
	r := rand.New(rand.NewSource(12))
	for range 200 {
		f := block.NewFinder()
		for _, i := range r.Perm(len(names))[r.Intn(len(names)):] {
			add(t, f, names[i], l[names[r.Intn(len(names))]])
		}
		add(t, f, "A", []string{"", "y", x + z, x + y + z + "y"}[r.Intn(4)])
		goes := r.Intn(len(names))
		for k, i := range r.Perm(len(names)) {
			if k == goes {
				forget(t, f, "A", true)
			}
			add(t, f, names[i], l[names[i]])
		}
		l.has(t, f, asked)
	}
}

// P5.3: no finder knows of another one.
func TestTwoFinders(t *testing.T) {
	x, y := times(16, "x"), times(16, "y")
	a, b := block.NewFinder(), block.NewFinder()
	add(t, a, "a", x)
	add(t, b, "a", y)
	files{"a": x}.has(t, a, []api.Hash{digestOf(y)})
	files{"a": y}.has(t, b, []api.Hash{digestOf(x)})
	forget(t, a, "a", true)
	files{}.has(t, a, []api.Hash{digestOf(x), digestOf(y)})
	files{"a": y}.has(t, b, []api.Hash{digestOf(x)})
}

// P5.7: what is handed in is not changed, not even what its capacity has behind it.
func TestNotChanged(t *testing.T) {
	f := block.NewFinder()
	for _, n := range append(edges, 4097) {
		data, all := roomy(noise(n, 13))
		before := bytes.Clone(all)
		for i := range api.MaxBlocks {
			part := block.Part(data, i)
			_ = append(part, "more than there was"...)
			for k := range part {
				part[k] ^= 255
			}
		}
		block.List(data)
		block.Verify(data, api.Hash{})
		f.Add("a", data)
		for _, h := range listOf(data) {
			got, _, _ := f.Find(h)
			_ = append(got, "more than there was"...)
			for k := range got {
				got[k] ^= 255
			}
		}
		f.Forget("a")
		if !bytes.Equal(all, before) {
			t.Errorf("%d bytes: changed", n)
		}
	}
}

// P5.7: what is handed in is not kept.
func TestNotKept(t *testing.T) {
	for _, n := range edges {
		data := noise(n, 14)
		l := files{"a": string(data), "b": "b"}
		f := block.NewFinder()
		f.Add("b", []byte("b"))
		f.Add("a", data)
		for i := range data {
			data[i] ^= 255
		}
		l.has(t, f, listOf(data))
		forget(t, f, "a", true)
		files{"b": "b"}.has(t, f, listOf([]byte(l["a"])))
	}
}

// P5.7: what is answered is new memory: what becomes of it changes no other answer.
func TestNewMemory(t *testing.T) {
	l := files{"a": string(noise(520, 15)), "b": string(noise(4096, 16))}
	f := l.finder(t)
	for range 2 {
		for _, data := range l {
			for _, h := range listOf([]byte(data)) {
				got, place, _ := f.Find(h)
				again, _, _ := f.Find(h)
				before := bytes.Clone(again)
				for i := range got {
					got[i] ^= 255
				}
				_ = append(got, "more than there was"...)
				place.Block++
				if !bytes.Equal(again, before) {
					t.Fatal("two answers share memory")
				}
			}
		}
		l.has(t, f, nil)
	}
	data := []byte(l["a"])
	one, _ := block.List(data)
	two, _ := block.List(data)
	for i := range one {
		one[i] = api.Hash{}
	}
	if !slices.Equal(two, listOf(data)) {
		t.Error("two lists share memory")
	}
}

// P5.8: of two files of one length, blocks that have the same bytes have the same digests.
func TestNear(t *testing.T) {
	for _, n := range edges {
		data := noise(n, 17)
		list, _ := block.List(data)
		for at := 0; at < n; at += 7 {
			near := bytes.Clone(data)
			near[at] ^= 1 << (at % 8)
			got, err := block.List(near)
			if err != api.OK || len(got) != len(list) {
				t.Fatalf("of %d bytes: %d digests, %d", n, len(got), err)
			}
			for i := range got {
				if changed := i == at/block.Size(n); (got[i] != list[i]) != changed {
					t.Errorf("of %d bytes, the byte %d changed: the digest %d", n, at, i)
				}
			}
		}
	}
}
