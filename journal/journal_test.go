package journal_test

import (
	"bytes"
	"crypto/sha256"
	"encoding/binary"
	"math"
	"math/rand"
	"slices"
	"strconv"
	"strings"
	"testing"

	"caravan/api"
	"caravan/block"
	"caravan/journal"
	"caravan/record"
)

const headSize = 20

// ids are those whose bytes are at edges, those of an entry's first byte and of the bytes that it writes in another way among them.
var ids = []uint64{0, 1, 7, 253, 254, 255, 256, 1 << 16, 1<<31 - 1, 1 << 31, 1<<32 - 1, 1 << 32, 0x0102030405060708, 0xfeff00fffe01fdfe, 1<<63 - 1, 1 << 63, math.MaxUint64 - 1, math.MaxUint64}

// escapes are how the two bytes that an entry has not in its midst are written.
var escapes = strings.NewReplacer("\xfe", "\xfe\x00", "\xff", "\xfe\x01")
var plain = strings.NewReplacer("\xfe\x00", "\xfe", "\xfe\x01", "\xff")

func aDir() api.Record {
	return api.Record{Path: "d", Kind: api.KDir, Time: 9, By: 3, Vector: api.Vector{2: 1}, Seq: 2}
}

func fileOf(n int, fill byte) api.Record {
	r := api.Record{Path: "f", Kind: api.KFile, Time: 7, By: 1, Vector: api.Vector{7}, Size: n, BlockSize: block.Size(n)}
	for i := range block.Count(n) {
		h := api.Hash{}
		for j := range h {
			h[j] = fill + byte(i*j)
		}
		r.Blocks = append(r.Blocks, h)
	}
	return r
}

func aLink(target string) api.Record {
	return api.Record{Path: "l", Kind: api.KLink, Time: api.MaxTime, By: 16, Vector: api.Vector{15: math.MaxUint32}, Target: target, Flags: 7, Seq: 1 << 62}
}

// with answers r changed by change.
func with(r api.Record, change func(r *api.Record)) api.Record {
	r.Blocks = slices.Clone(r.Blocks)
	change(&r)
	return r
}

// records are of all kinds, with the bytes 253 to 255 in each of their parts.
func records() []api.Record {
	l := []api.Record{
		aDir(),
		with(aDir(), func(r *api.Record) { r.Path, r.Time, r.Seq = "\xfe", 0xfefffdfe, 0xfeff }),
		with(aDir(), func(r *api.Record) { r.Path, r.Time, r.Seq = "\xff\xff/\xfe\xff", 0xffffffff, 0xffffff }),
		with(aDir(), func(r *api.Record) { r.Path = "\xfe\x80\xfe\xff\xfd\xfe" }),
		with(aDir(), func(r *api.Record) {
			for i := range r.Vector {
				r.Vector[i] = 0xfefffefe + uint32(i)
			}
		}),
		{Path: "g", Kind: api.KFile, Deleted: true, Time: 9, By: 3, Vector: api.Vector{1}},
		{Path: "g/h", Kind: api.KLink, Deleted: true, Time: 0, By: 1, Vector: api.Vector{15: 1}, Flags: 5},
		aLink("\xff"), aLink("\xfe\xfe\xff"), aLink("x"), aLink(strings.Repeat("\xff", api.MaxTarget)),
	}
	for _, n := range []int{0, 1, 254, 255, 4096} {
		l = append(l, fileOf(n, 0), fileOf(n, 0xfe), fileOf(n, 0xff))
	}
	return l
}

// noRecords are such as may not be, and what is wrong with them.
func noRecords() map[api.Errno][]api.Record {
	return map[api.Errno][]api.Record{
		api.ErrPath: {{}, with(aDir(), func(r *api.Record) { r.Path = "a//b" }), with(aDir(), func(r *api.Record) { r.Path, r.Kind = "", 0 })},
		api.ErrKind: {with(aDir(), func(r *api.Record) { r.Kind = 0 }), with(aDir(), func(r *api.Record) { r.Kind, r.By = 4, 0 })},
		api.ErrArg: {
			with(aDir(), func(r *api.Record) { r.By = 17 }), with(aDir(), func(r *api.Record) { r.Time = 1 << 32 }),
			with(aDir(), func(r *api.Record) { r.Vector[2] = 0; r.Flags = 8 }), with(aDir(), func(r *api.Record) { r.Seq = 1<<62 + 1 }),
		},
		api.ErrForm: {with(aDir(), func(r *api.Record) { r.Size = 1 }), aLink(""), with(fileOf(16, 1), func(r *api.Record) { r.Size = 17 })},
	}
}

// number is one of the width 4 or 8, by the library.
func number(width int, n uint64) []byte { return binary.BigEndian.AppendUint64(nil, n)[8-width:] }

func joined(l ...[]byte) []byte { return slices.Concat(l...) }

// mark is the first bytes of a digest, by the library.
func mark(l ...[]byte) []byte {
	h := sha256.Sum256(joined(l...))
	return h[:8]
}

// headOf is the chapter's words.
func headOf(id uint64) []byte {
	b := joined([]byte("CJ01"), number(8, id))
	return joined(b, mark(b))
}

// written is an entry's bytes of a content.
func written(content []byte) []byte { return []byte("\xff" + escapes.Replace(string(content))) }

// marked is a content whose mark is right.
func marked(id uint64, b []byte) []byte { return joined(b, mark(number(8, id), b)) }

// entryOf is the chapter's words.
func entryOf(t *testing.T, id uint64, n int, r api.Record) []byte {
	t.Helper()
	return written(marked(id, joined(number(4, uint64(n)), bytesOf(t, r))))
}

func bytesOf(t *testing.T, r api.Record) []byte {
	t.Helper()
	b, err := record.Put(nil, r)
	if err != api.OK {
		t.Fatalf("no record: %v: %d", r, err)
	}
	return b
}

// logOf is the chapter's words: a log's head, and each of its entries.
func logOf(t *testing.T, id uint64, l []api.Record) [][]byte {
	t.Helper()
	out := [][]byte{headOf(id)}
	for i, r := range l {
		out = append(out, entryOf(t, id, i, r))
	}
	return out
}

func pack(t *testing.T, id uint64, l ...api.Record) []byte {
	t.Helper()
	b, err := journal.Pack(id, l)
	if err != api.OK {
		t.Fatalf("Pack of %d records = %d", len(l), err)
	}
	return b
}

func add(t *testing.T, w *journal.Writer, r api.Record) []byte {
	t.Helper()
	b, err := w.Add(r)
	if err != api.OK {
		t.Fatalf("Add = %d", err)
	}
	return b
}

func alike(a, b []api.Record) bool {
	return slices.EqualFunc(a, b, func(a, b api.Record) bool { return record.Same(a, b) && a.Seq == b.Seq })
}

// is holds a writer against the log that it is to go on.
func is(t *testing.T, w *journal.Writer, id uint64, n int) {
	t.Helper()
	if w == nil || w.ID() != id || w.Len() != n || !bytes.Equal(w.Head(), headOf(id)) {
		t.Fatalf("a writer of %x, at %d, with the head %x, not of %x, at %d", w.ID(), w.Len(), w.Head(), id, n)
	}
}

// reads holds Read against what is whole, and what is written behind that.
func reads(t *testing.T, b []byte, id uint64, want []api.Record, used int) {
	t.Helper()
	before := bytes.Clone(b)
	l, got, w, err := journal.Read(b)
	if err != api.OK || !alike(l, want) || got != used {
		t.Fatalf("Read of %d bytes = %d entries in %d bytes, %d, not %d in %d", len(b), len(l), got, err, len(want), used)
	}
	is(t, w, id, len(want))
	if !bytes.Equal(b, before) {
		t.Error("Read changes what it is handed")
	}
	more := append(slices.Clone(want), aLink("x"), aDir())
	whole := bytes.Clone(b[:used])
	for i := len(want); i < len(more); i++ {
		whole = append(whole, add(t, w, more[i])...)
		is(t, w, id, i+1)
	}
	l, got, w, err = journal.Read(whole)
	if err != api.OK || !alike(l, more) || got != len(whole) {
		t.Fatalf("Read of what is written behind = %d entries in %d bytes, %d, not %d in %d", len(l), got, err, len(more), len(whole))
	}
	is(t, w, id, len(more))
}

// readsNone holds Read against ErrForm, with zero values beside.
func readsNone(t *testing.T, b []byte) {
	t.Helper()
	if l, used, w, err := journal.Read(b); len(l) != 0 || used != 0 || w != nil || err != api.ErrForm {
		t.Fatalf("Read of %x = %d entries, %d, %v, %d", b, len(l), used, w, err)
	}
}

// wholeOf is the chapter's words: what is whole of bytes that begin with the head of that id.
func wholeOf(t *testing.T, id uint64, b []byte) (l []api.Record, used int) {
	t.Helper()
	used = headSize
	for used < len(b) && b[used] == 255 {
		piece := b[used:]
		if i := bytes.IndexByte(piece[1:], 255); i >= 0 {
			piece = piece[:i+1]
		}
		content := plain.Replace(string(piece[1:]))
		if len(content) < 12 {
			break
		}
		r, err := record.Get([]byte(content[4 : len(content)-8]))
		if err != api.OK || !bytes.Equal(piece, entryOf(t, id, len(l), r)) {
			break
		}
		l, used = append(l, r), used+len(piece)
	}
	return l, used
}

// readsAsModel holds Read against wholeOf.
func readsAsModel(t *testing.T, id uint64, b []byte) {
	t.Helper()
	if !bytes.HasPrefix(b, headOf(id)) {
		readsNone(t, b)
		return
	}
	l, used := wholeOf(t, id, b)
	reads(t, b, id, l, used)
}

// The chapter's examples.
func TestExamples(t *testing.T) {
	b := bytesOf(t, aDir())
	if len(b) != 28 || slices.Max(b) > 253 {
		t.Errorf("the bytes of d are %x", b)
	}
	if n := len(journal.New(7).Head()); n != 20 {
		t.Errorf("Head has %d bytes", n)
	}
	if b := pack(t, 7); len(b) != 20 {
		t.Errorf("Pack of none has %d bytes", len(b))
	}
	two, one := pack(t, 7, aDir(), aDir()), pack(t, 7, aDir())
	for _, x := range []struct {
		what string
		b    []byte
		want int
		err  api.Errno
	}{
		{"all", two, 2, api.OK},
		{"all but the last byte", two[:len(two)-1], 1, api.OK},
		{"all but the first entry", joined(two[:20], two[len(one):]), 0, api.OK},
		{"20 bytes", two[:20], 0, api.OK},
		{"19 bytes", two[:19], 0, api.ErrForm},
	} {
		if l, _, _, err := journal.Read(x.b); len(l) != x.want || err != x.err {
			t.Errorf("Read of %s = %d entries, %d", x.what, len(l), err)
		}
	}
	if b, err := journal.New(7).Add(with(aDir(), func(r *api.Record) { r.Path = "a//b" })); len(b) != 0 || err != api.ErrPath {
		t.Errorf("Add of a//b = %x, %d", b, err)
	}
}

// P14.1: the head, the id and the next number of new writers.
func TestNew(t *testing.T) {
	for _, id := range ids {
		w := journal.New(id)
		is(t, w, id, 0)
		add(t, w, aDir())
		is(t, w, id, 1)
		is(t, journal.New(id), id, 0)
	}
	l := make([]*journal.Writer, len(ids))
	for i, id := range ids {
		l[i] = journal.New(id)
		for range i {
			add(t, l[i], aDir())
		}
	}
	for i, id := range ids {
		is(t, l[i], id, i) // whatever was done with others
	}
}

// P14.1 and P14.2: writers that are nil, or that no call made.
func TestNoWriter(t *testing.T) {
	for what, w := range map[string]*journal.Writer{"nil": nil, "no call's": {}, "another one of no call's": new(journal.Writer)} {
		for range 2 {
			if len(w.Head()) != 0 || w.ID() != 0 || w.Len() != 0 {
				t.Errorf("%s: Head = %x, ID = %d, Len = %d", what, w.Head(), w.ID(), w.Len())
			}
			for _, r := range []api.Record{aDir(), {}} {
				if b, err := w.Add(r); len(b) != 0 || err != api.ErrNil {
					t.Errorf("%s: Add = %x, %d", what, b, err)
				}
			}
		}
	}
}

// P14.2: each record's bytes, behind so many others that numbers have each byte, too.
func TestAdd(t *testing.T) {
	l := records()
	for _, id := range ids {
		w := journal.New(id)
		for i := range 600 {
			r := l[i%len(l)]
			want := entryOf(t, id, i, r)
			if got := add(t, w, r); !bytes.Equal(got, want) {
				t.Fatalf("Add of the entry %d = %x, not %x", i, got, want)
			}
			if bytes.LastIndexByte(want, 255) != 0 {
				t.Fatalf("a byte 255 stands within the entry %d: %x", i, want)
			}
			is(t, w, id, i+1)
		}
	}
}

// P14.2: what may not be has no bytes and no number.
func TestAddErrors(t *testing.T) {
	w := journal.New(7)
	for i := range 3 {
		for want, l := range noRecords() {
			for _, r := range l {
				if b, err := w.Add(r); len(b) != 0 || err != want {
					t.Errorf("Add of %v = %x, %d, not %d", r, b, err, want)
				}
				is(t, w, 7, i)
			}
		}
		if got := add(t, w, aDir()); !bytes.Equal(got, entryOf(t, 7, i, aDir())) {
			t.Errorf("behind errors Add = %x", got)
		}
	}
}

// P14.3: the bytes of logs of each length.
func TestPack(t *testing.T) {
	l := records()
	for _, id := range ids {
		for n := range len(l) + 1 {
			if got, want := pack(t, id, l[:n]...), joined(logOf(t, id, l[:n])...); !bytes.Equal(got, want) {
				t.Errorf("Pack(%x) of %d = %x, not %x", id, n, got, want)
			}
		}
	}
	if got := pack(t, 7); !bytes.Equal(got, headOf(7)) {
		t.Errorf("Pack of none = %x", got)
	}
}

// P14.3: the first record that may not be, wherever it stands.
func TestPackErrors(t *testing.T) {
	good := records()[:4]
	for want, l := range noRecords() {
		for _, r := range l {
			for at := range len(good) + 1 {
				for _, other := range noRecords() {
					all := append(slices.Insert(slices.Clone(good), at, r), other[0], other[1])
					if b, err := journal.Pack(7, all); len(b) != 0 || err != want {
						t.Errorf("Pack with %v at %d = %x, %d, not %d", r, at, b, err, want)
					}
				}
			}
		}
	}
}

// P14.4: a head, or none.
func TestReadHead(t *testing.T) {
	readsNone(t, nil)
	readsNone(t, []byte{})
	readsNone(t, make([]byte, 100))
	for _, id := range ids {
		head := headOf(id)
		for n := range headSize {
			readsNone(t, head[:n])
			readsNone(t, joined(head[:n], entryOf(t, id, 0, aDir())))
			readsNone(t, joined(head[:n], head[n+1:]))
			readsNone(t, joined(head[:n], head[n+1:], entryOf(t, id, 0, aDir())))
			for _, x := range []byte{1, 2, 0x80, 0xff} {
				b := joined(head, entryOf(t, id, 0, aDir()))
				b[n] ^= x
				readsNone(t, b[:headSize])
				readsNone(t, b)
			}
		}
		readsNone(t, joined([]byte{0}, head))
		readsNone(t, entryOf(t, id, 0, aDir()))
		reads(t, head, id, nil, headSize)
		for _, x := range []byte{0, 1, 'C', 253, 254, 255} {
			reads(t, append(slices.Clone(head), x), id, nil, headSize)
		}
		reads(t, joined(head, head), id, nil, headSize)
	}
	for _, name := range []string{"CJ00", "CJ02", "cj01", "CJ0\x01", "JC01", "\x00\x00\x00\x00"} {
		b := joined([]byte(name), number(8, 7))
		readsNone(t, joined(b, mark(b)))
	}
	for _, b := range [][]byte{[]byte("CJ01"), joined([]byte("CJ01"), number(4, 7)), joined([]byte("CJ01"), number(8, 7), []byte{0})} {
		readsNone(t, joined(b, mark(b)))
	}
}

// P14.4 and P14.5: what is packed is read, all of it; also what is written one by one.
func TestReadAll(t *testing.T) {
	l := records()
	for _, id := range ids {
		for n := range len(l) + 1 {
			b := pack(t, id, l[:n]...)
			reads(t, b, id, l[:n], len(b))
		}
		w := journal.New(id)
		b := w.Head()
		for _, r := range l {
			b = append(b, add(t, w, r)...)
		}
		reads(t, b, id, l, len(b))
	}
	many := slices.Repeat([]api.Record{aDir()}, 70000) // whose numbers have more than two bytes
	b := pack(t, 7, many...)
	reads(t, b, 7, many, len(b))
}

// P14.5: a log that is cut anywhere.
func TestReadCut(t *testing.T) {
	l := records()
	for _, id := range []uint64{7, 0xfeff00fffe01fdfe} {
		parts := logOf(t, id, l)
		whole, count, used := joined(parts...), 0, headSize
		for n := headSize; n <= len(whole); n++ {
			if count < len(l) && n == used+len(parts[count+1]) {
				used, count = n, count+1
			}
			got, size, w, err := journal.Read(whole[:n])
			if err != api.OK || len(got) != count || size != used || w.Len() != count || w.ID() != id {
				t.Fatalf("Read of %d bytes = %d entries in %d bytes, %d, not %d in %d", n, len(got), size, err, count, used)
			}
		}
		if count != len(l) {
			t.Fatalf("%d entries are read of %d", count, len(l))
		}
	}
}

// P14.5: of each entry some of its first bytes are kept.
func TestReadKept(t *testing.T) {
	rng := rand.New(rand.NewSource(14))
	l := records()
	for range 3000 {
		id := ids[rng.Intn(len(ids))]
		picked := make([]api.Record, rng.Intn(6))
		for i := range picked {
			picked[i] = l[rng.Intn(len(l))]
		}
		parts := logOf(t, id, picked)
		b, count, used, whole := parts[0], 0, headSize, true
		for _, part := range parts[1:] {
			kept := len(part)
			switch rng.Intn(4) {
			case 0:
				kept = rng.Intn(len(part) + 1)
			case 1:
				kept = rng.Intn(2) * rng.Intn(3)
			}
			whole = whole && kept == len(part)
			if whole {
				count, used = count+1, used+len(part)
			}
			b = joined(b, part[:kept])
		}
		reads(t, b, id, picked[:count], used)
	}
}

// P14.5: each number of first bytes of one entry among others.
func TestReadKeptOne(t *testing.T) {
	l := []api.Record{aDir(), aLink("\xfe\xff"), fileOf(17, 0xfe), aDir()}
	parts := logOf(t, 254, l)
	for at := 1; at < len(parts); at++ {
		used := len(joined(parts[:at]...))
		for kept := range parts[at] {
			reads(t, joined(joined(parts[:at]...), parts[at][:kept], joined(parts[at+1:]...)), 254, l[:at-1], used)
		}
	}
}

// P14.4: entries at other places, of other logs, more than once, or not at all.
func TestReadOtherEntries(t *testing.T) {
	l := []api.Record{aDir(), aLink("x"), fileOf(17, 1), aDir()}
	parts := logOf(t, 7, l)
	for i := range parts {
		for j := range parts {
			var picked [][]byte
			for k, part := range parts {
				if k == i {
					part = parts[j]
				}
				picked = append(picked, part)
			}
			readsAsModel(t, 7, joined(picked...))
			readsAsModel(t, 7, joined(slices.Delete(slices.Clone(parts), min(i, j), max(i, j))...))
			readsAsModel(t, 7, joined(slices.Insert(slices.Clone(parts), i, parts[j])...))
		}
	}
	for _, other := range ids {
		b := joined(headOf(7), entryOf(t, other, 0, aDir()))
		if other != 7 {
			reads(t, b, 7, nil, headSize)
			reads(t, joined(parts[0], parts[1], entryOf(t, other, 1, aDir()), parts[2]), 7, l[:1], headSize+len(parts[1]))
		} else {
			reads(t, b, 7, []api.Record{aDir()}, len(b))
		}
	}
	for at := 1; at < len(parts); at++ { // what an entry has not behind it, or ahead
		used := len(joined(parts[:at]...))
		for _, more := range []string{"\x00", "\x01", "a", "\xfd", "\xfe", "\xfe\x00", "CJ01", "\x00\x00\x00"} {
			b := joined(joined(parts[:at]...), []byte(more))
			if at == 1 {
				reads(t, b, 7, nil, used)
			} else {
				reads(t, b, 7, l[:at-2], used-len(parts[at-1]))
			}
			readsAsModel(t, 7, joined(b, joined(parts[at:]...)))
		}
		for _, more := range []string{"\xff", "\xff\xff", "\xff\x00", "\xffa", "\xff\xfe", "\xff\xfe\x02"} {
			b := joined(joined(parts[:at]...), []byte(more))
			reads(t, b, 7, l[:at-1], used)
			reads(t, joined(b, joined(parts[at:]...)), 7, l[:at-1], used)
		}
	}
}

// P14.4: contents that no entry has, though their mark is right.
func TestReadContents(t *testing.T) {
	own := bytesOf(t, aDir())
	right := joined(number(4, 0), own)
	reads(t, joined(headOf(7), written(marked(7, right))), 7, []api.Record{aDir()}, headSize+len(written(marked(7, right))))
	for what, content := range map[string][]byte{
		"no record":              marked(7, number(4, 0)),
		"nothing":                marked(7, nil),
		"no number":              marked(7, own),
		"a number of less bytes": marked(7, joined(number(4, 0)[:3], own)),
		"a number of more bytes": marked(7, joined(number(8, 0), own)),
		"another number":         marked(7, joined(number(4, 1), own)),
		"a great number":         marked(7, joined(number(4, 1<<31), own)),
		"more than a record":     marked(7, joined(right, []byte{0})),
		"less than a record":     marked(7, right[:len(right)-1]),
		"two records":            marked(7, joined(right, own)),
		"no record's bytes":      marked(7, joined(number(4, 0), bytes.Replace(own, []byte("d"), []byte("/"), 1))),
		"another log's mark":     marked(8, right),
		"no mark":                right,
		"a mark without id":      joined(right, mark(right)),
		"a mark of the record":   joined(right, mark(number(8, 7), own)),
		"a mark in front":        joined(mark(number(8, 7), right), right),
		"a mark cut":             marked(7, right)[:len(right)+7],
		"more behind the mark":   joined(marked(7, right), []byte{0}),
		"two marks":              joined(marked(7, right), mark(number(8, 7), right)),
		"a mark of a mark":       marked(7, marked(7, right)),
		"the mark's last bytes":  joined(right, func() []byte { h := sha256.Sum256(joined(number(8, 7), right)); return h[24:] }()),
	} {
		b := joined(headOf(7), written(content))
		l, used, w, err := journal.Read(b)
		if err != api.OK || len(l) != 0 || used != headSize || w.Len() != 0 {
			t.Errorf("%s: %d entries in %d bytes, %d", what, len(l), used, err)
		}
		readsAsModel(t, 7, joined(b, entryOf(t, 7, 0, aDir())))
	}
}

// P14.4: bytes that are written in another way than an entry's are.
func TestReadEscapes(t *testing.T) {
	for _, r := range append(records()[:9], fileOf(1, 0xfe), fileOf(17, 0xff)) {
		good := entryOf(t, 7, 0, r)
		reads(t, joined(headOf(7), good), 7, []api.Record{r}, headSize+len(good))
		for i := range good {
			if good[i] != 254 {
				continue
			}
			for x := range 256 { // a byte 255 begins another piece; 2 and more are none that stand behind 254
				b := joined(headOf(7), good)
				if b[headSize+i+1] = byte(x); byte(x) != good[i+1] {
					reads(t, b, 7, nil, headSize)
				}
			}
			reads(t, joined(headOf(7), good[:i], good[i+2:]), 7, nil, headSize)
			reads(t, joined(headOf(7), good[:i+1], good[i+2:]), 7, nil, headSize)
			reads(t, joined(headOf(7), good[:i], []byte{254}, good[i:]), 7, nil, headSize)
			reads(t, joined(headOf(7), good[:i], []byte{254 + good[i+1]}, good[i+2:]), 7, nil, headSize)
		}
		for _, x := range []byte{2, 3, 127, 253} { // what could be read as another byte
			b := slices.Clone(good[:1])
			for _, y := range good[1:] {
				if y == 254+x {
					b = append(b, 254, x)
				} else {
					b = append(b, y)
				}
			}
			readsAsModel(t, 7, joined(headOf(7), b))
		}
	}
	d := entryOf(t, 7, 0, aDir())
	reads(t, joined(headOf(7), []byte{0xff, 254, 2}, d[2:]), 7, nil, headSize) // 254 2 in the place of a byte 0
	reads(t, joined(headOf(7), d, []byte{254}), 7, nil, headSize)
}

// P14.4: each byte of a log in the place of which another one stands.
func TestReadChanged(t *testing.T) {
	l := []api.Record{aLink("\xfe\xff"), aDir(), fileOf(1, 0xff)}
	whole := pack(t, 0xfeff, l...)
	for i := range whole {
		for _, x := range []byte{1, 0x10, 0x80, 0xff, whole[i], whole[i] ^ 254, ^whole[i]} {
			b := bytes.Clone(whole)
			b[i] ^= x
			readsAsModel(t, 0xfeff, b)
		}
		readsAsModel(t, 0xfeff, slices.Delete(bytes.Clone(whole), i, i+1))
		readsAsModel(t, 0xfeff, slices.Insert(bytes.Clone(whole), i, whole[i]))
		readsAsModel(t, 0xfeff, slices.Insert(bytes.Clone(whole), i, 255))
	}
}

// P14.4 and R1: any bytes, behind a head, and pieces of logs.
func TestReadAny(t *testing.T) {
	rng := rand.New(rand.NewSource(15))
	l := records()
	bits := []string{"\xff", "\xfe", "\xfe\x00", "\xfe\x01", "\x00", "CJ01", "a"}
	for _, id := range []uint64{7, 255} {
		for i := range 5 {
			for _, r := range l[:6] {
				bits = append(bits, string(entryOf(t, id, i, r)))
			}
		}
	}
	for range 5000 {
		b := headOf(7)
		for range rng.Intn(8) {
			if rng.Intn(4) == 0 {
				piece := make([]byte, rng.Intn(50))
				rng.Read(piece)
				b = append(b, piece...)
			} else {
				b = append(b, bits[rng.Intn(len(bits))]...)
			}
		}
		if rng.Intn(10) == 0 {
			b[rng.Intn(len(b))] ^= byte(rng.Intn(256))
		}
		readsAsModel(t, 7, b)
	}
}

// R1: what is long is read as fast as what is short.
func TestReadLong(t *testing.T) {
	const most = 1 << 22
	one := pack(t, 7, aDir())
	for what, more := range map[string][]byte{
		"bytes 255":              bytes.Repeat([]byte{255}, most),
		"bytes 254":              bytes.Repeat([]byte{254}, most),
		"one piece":              append([]byte{255}, make([]byte, most)...),
		"one piece of bytes 254": append([]byte{255}, bytes.Repeat([]byte{254, 0}, most/2)...),
	} {
		want := 1
		if more[0] != 255 {
			want = 0
		}
		if l, _, w, err := journal.Read(joined(one, more)); err != api.OK || len(l) != want || w.Len() != want {
			t.Errorf("%s: %d entries, %d", what, len(l), err)
		}
	}
}

// P14.5: power that goes again and again: what is written behind what was whole is read with it.
func TestGoOn(t *testing.T) {
	rng := rand.New(rand.NewSource(16))
	kinds := records()
	for round := range 40 {
		id := ids[round%len(ids)]
		w := journal.New(id)
		b, l := w.Head(), []api.Record(nil)
		for range 12 {
			ends := []int{len(b)}
			for range rng.Intn(5) {
				r := kinds[rng.Intn(len(kinds))]
				b, l = append(b, add(t, w, r)...), append(l, r)
				ends = append(ends, len(b))
			}
			cut := ends[0] + rng.Intn(len(b)-ends[0]+1) // what was whole before lasts
			kept := 0
			for kept+1 < len(ends) && ends[kept+1] <= cut {
				kept++
			}
			l = l[:len(l)-len(ends)+1+kept]
			reads(t, b[:cut], id, l, ends[kept])
			got, used, next, err := journal.Read(b[:cut])
			if err != api.OK || !alike(got, l) {
				t.Fatalf("Read = %d entries, %d, not %d", len(got), err, len(l))
			}
			b, w = b[:used:used], next
		}
		if want := joined(logOf(t, id, l)...); !bytes.Equal(b, want) {
			t.Errorf("the log behind it all is %x, not %x", b, want)
		}
	}
}

// roomy answers bytes with room for many more behind them, and all of that memory.
func roomy(b []byte) (part, all []byte) {
	all = slices.Repeat([]byte{0xee}, len(b)+2000)
	copy(all, b)
	return all[:len(b)], all
}

// R4: what is handed in is neither changed nor kept; what is answered is new memory.
func TestMemory(t *testing.T) {
	w := journal.New(7)
	for _, b := range [][]byte{w.Head(), w.Head(), add(t, w, fileOf(17, 1)), pack(t, 7), pack(t, 7, fileOf(17, 1))} {
		clear(b)
		clear(b[:cap(b)])
	}
	is(t, w, 7, 1)
	l := []api.Record{fileOf(17, 1), fileOf(17, 1), aLink("x")}
	before := []api.Record{fileOf(17, 1), fileOf(17, 1), aLink("x")}
	part, all := roomy(pack(t, 7, l...))
	same := bytes.Clone(all)
	got, used, _, err := journal.Read(part)
	if !alike(l, before) || !bytes.Equal(all, same) {
		t.Error("what is handed in is changed")
	}
	clear(all)
	for i := range l {
		clear(l[i].Blocks)
	}
	if err != api.OK || used != len(part) || !alike(got, before) {
		t.Error("what is read shares memory with what is handed in")
	}
	clear(got[0].Blocks)
	if !alike(got[1:], before[1:]) {
		t.Error("two records of one answer share memory")
	}
	r := fileOf(17, 1)
	w = journal.New(7)
	one := add(t, w, r)
	clear(r.Blocks)
	kept := bytes.Clone(one)
	two := add(t, w, fileOf(17, 2))
	if !bytes.Equal(one, kept) || !bytes.Equal(two, entryOf(t, 7, 1, fileOf(17, 2))) {
		t.Error("what is added shares memory with what was")
	}
}

// R6: a writer that was read goes on by itself, whatever is done with others.
func TestWritersApart(t *testing.T) {
	b := pack(t, 7, aDir())
	_, _, one, _ := journal.Read(b)
	_, _, two, _ := journal.Read(b)
	for i := range 300 {
		r := with(aDir(), func(r *api.Record) { r.Path = "p" + strconv.Itoa(i) })
		if got := add(t, one, r); !bytes.Equal(got, entryOf(t, 7, i+1, r)) {
			t.Fatalf("the entry %d is %x", i+1, got)
		}
		is(t, two, 7, 1)
	}
	if got := add(t, two, aLink("x")); !bytes.Equal(got, entryOf(t, 7, 1, aLink("x"))) {
		t.Errorf("the other one's is %x", got)
	}
	is(t, one, 7, 301)
}
