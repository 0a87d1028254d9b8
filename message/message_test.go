package message_test

import (
	"bytes"
	"encoding/binary"
	"encoding/hex"
	"math"
	"math/rand"
	"slices"
	"strconv"
	"strings"
	"testing"

	"caravan/api"
	"caravan/block"
	tape "caravan/bytes"
	"caravan/message"
	"caravan/path"
	"caravan/record"
)

const (
	mostBytes = 16384
	mostSeq   = 1 << 62
)

// noKinds are none, some of them one of the nine, if some of their bits are lost.
var noKinds = []int{0, 10, 11, 15, 16, 127, 128, 255, 256, 257, 264, 265, 1<<16 + 1, 1<<32 + 1, 1<<32 + 9, -1, -2, -9, -255, -256, 1 - 1<<32, math.MaxInt32, math.MinInt32, math.MaxInt, math.MinInt, math.MinInt + 1}

// noPaths are none.
var noPaths = []string{"", "/", "/a", "a/", "a//b", ".", "a/..", "a\x00", "\x7f", strings.Repeat("n", 49), "a/b/c/d/e/f/g", strings.Repeat("n/", 80) + "n", strings.Repeat("n", 1<<17)}

// longPath has as many bytes as a path may have.
var longPath = strings.Repeat(strings.Repeat("p", 27)+"/", 4) + strings.Repeat("q", 48)

// change changes a message.
type change = func(m *api.Message)

// sets answers the changes by which a field gets each of these.
func sets[T any](set func(m *api.Message, x T), l ...T) []change {
	var out []change
	for _, x := range l {
		out = append(out, func(m *api.Message) { set(m, x) })
	}
	return out
}

// with answers m changed by l, one behind the other.
func with(m api.Message, l ...change) api.Message {
	m = clone(m)
	for _, f := range l {
		f(&m)
	}
	return m
}

// clone shares no memory with m.
func clone(m api.Message) api.Message {
	m.Shares, m.Have, m.Records = slices.Clone(m.Shares), slices.Clone(m.Have), slices.Clone(m.Records)
	for i := range m.Records {
		m.Records[i].Blocks = slices.Clone(m.Records[i].Blocks)
	}
	return m
}

func counter(dev int, n uint32) api.Vector {
	v := api.Vector{}
	v[dev-1] = n
	return v
}

func aDir() api.Record {
	return api.Record{Path: "d", Kind: api.KDir, Time: 9, By: 3, Vector: counter(3, 1), Seq: 2}
}

func aLink() api.Record {
	return api.Record{Path: "l", Kind: api.KLink, Time: 9, By: 3, Vector: counter(16, 1), Target: "../t", Flags: 7}
}

func gone() api.Record {
	return api.Record{Path: "g", Kind: api.KFile, Deleted: true, Time: api.MaxTime, By: 16, Vector: counter(1, math.MaxUint32), Seq: mostSeq}
}

func fileOf(p string, size int) api.Record {
	r := api.Record{Path: p, Kind: api.KFile, Size: size, BlockSize: block.Size(size), Time: 7, By: 1, Vector: counter(1, 7)}
	for i := range block.Count(size) {
		r.Blocks = append(r.Blocks, api.Hash{byte(i), 31: byte(size)})
	}
	return r
}

func aShare(folder int) api.Share {
	return api.Share{Folder: folder, Mode: 1 + folder%3, IndexID: 1 << 63, Seq: 5, Known: math.MaxUint64, KnownSeq: 6}
}

// plain answers a message of a kind, with something in each field that it names.
func plain(kind int) api.Message {
	m := api.Message{Kind: kind}
	switch kind {
	case api.MHello:
		m.Device = 3
	case api.MConfig:
		m.Shares = []api.Share{aShare(1), aShare(3), aShare(4)}
	case api.MIndex, api.MUpdate:
		m.Folder, m.Records = 2, []api.Record{fileOf("a/b", 40), aDir(), aLink(), gone()}
	case api.MRequest:
		m.ID, m.Folder, m.Path, m.Off, m.Size, m.Hash = 7, 1, "a/b", 16, 16, api.Hash{1, 2, 31: 3}
	case api.MResponse:
		m.ID, m.Data = 7, "xy"
	case api.MProgress:
		m.Folder, m.Path, m.Have = 1, "a", []int{0, 5, 31}
	case api.MClose:
		m.Err = api.ErrPeer
	}
	return m
}

// field is one of a message's, with the kinds that name it.
type field struct {
	name  string
	kinds []int
	good  []change // what it may be, where it is named
	bad   []change // what is ErrArg there
	other []change // what is not zero, nor long
}

func numbers(name string, kinds []int, set func(m *api.Message, n int), good, bad []int) field {
	other := slices.DeleteFunc(append(slices.Clone(good), bad...), func(n int) bool { return n == 0 })
	return field{name, kinds, sets(set, good...), sets(set, bad...), sets(set, other...)}
}

func fields() []field {
	far := []int{-2, -1 << 31, 1 << 32, 1<<32 + 1, 1<<32 + 7, math.MaxInt, math.MinInt, math.MinInt + 1}
	setErr := func(m *api.Message, n int) { m.Err, m.Data = api.Errno(n), "" }
	setPath := func(m *api.Message, s string) { m.Path = s }
	setHash := func(m *api.Message, h api.Hash) { m.Hash = h }
	return []field{
		numbers("Device", []int{1}, func(m *api.Message, n int) { m.Device = n },
			[]int{1, 2, 15, 16}, append(far, 0, -1, 17, 255, 256, 257)),
		numbers("Folder", []int{3, 4, 5, 7}, func(m *api.Message, n int) { m.Folder = n },
			[]int{1, 2, 3, 4}, append(far, 0, -1, 5, 255, 256, 257)),
		numbers("ID", []int{5, 6}, func(m *api.Message, n int) { m.ID = n },
			[]int{0, 1, 255, 256, 1 << 30, 1<<31 - 1}, append(far, -1, 1<<31, 1<<32-1)),
		numbers("Off", []int{5}, func(m *api.Message, n int) { m.Off = n },
			[]int{0, 1, 255, 256, 4095, 4096}, append(far, -1, 4097, 8192, 65535, 65536, 65537)),
		numbers("Size", []int{5}, func(m *api.Message, n int) { m.Size = n },
			[]int{1, 2, 16, 255, 256}, append(far, 0, -1, 257, 4096, 65535, 65536, 65537)),
		{"Path", []int{5, 7}, sets(setPath, "a", "a/b", "é", longPath, "a/b/c/d/e/f"), nil, sets(setPath, "a", "/", longPath, noPaths[len(noPaths)-1])},
		{"Hash", []int{5}, sets(setHash, api.Hash{}, api.Hash{1}, api.Hash{31: 255}), nil, sets(setHash, api.Hash{1}, api.Hash{31: 255})},
		dataField(),
		numbers("Err", []int{6, 9}, setErr,
			[]int{0, 1, 5, 21, 127, 128, 254, 255}, append(far, -1, 256, 257, 65536)),
		sharesField(), recordsField(), haveField(),
	}
}

func dataField() field {
	set := func(m *api.Message, s string) { m.Data = s }
	good := []string{"", "x", "\x00", "\xff\xfe", strings.Repeat("d", 255), strings.Repeat("\x00", 256)}
	return field{"Data", []int{6}, sets(set, good...), sets(func(m *api.Message, e api.Errno) { m.Err, m.Data = e, "x" }, 1, api.ErrNone, 255), sets(set, good[1:]...)}
}

func sharesField() field {
	set := func(m *api.Message, l []api.Share) { m.Shares = l }
	f := field{name: "Shares", kinds: []int{2}}
	f.good = sets(set, nil, []api.Share{}, []api.Share{aShare(1)}, []api.Share{aShare(4)}, []api.Share{aShare(1), aShare(2), aShare(3), aShare(4)}, []api.Share{aShare(2), aShare(4)}, []api.Share{{Folder: 1, Mode: 1}})
	f.bad = sets(set, []api.Share{aShare(2), aShare(2)}, []api.Share{aShare(3), aShare(2)}, []api.Share{aShare(1), aShare(4), aShare(2), aShare(3)}, []api.Share{aShare(1), aShare(2), aShare(3), aShare(3)}, []api.Share{{}}, []api.Share{aShare(1), {}})
	f.other = sets(set, []api.Share{{}}, []api.Share{aShare(1)}, []api.Share{aShare(1), aShare(2), aShare(3), aShare(4)})
	one := func(at int, change func(s *api.Share)) change {
		return func(m *api.Message) {
			m.Shares = []api.Share{aShare(1), aShare(2), aShare(3)}
			change(&m.Shares[at])
		}
	}
	for at := range 3 {
		for _, n := range []int{0, 5, -1, 255, 256 + at + 1, 1<<32 + at + 1, math.MaxInt, math.MinInt} {
			f.bad = append(f.bad, one(at, func(s *api.Share) { s.Folder = n }))
		}
		for _, n := range []int{0, 4, -1, 255, 257, 1<<32 + 1, math.MaxInt, math.MinInt} {
			f.bad = append(f.bad, one(at, func(s *api.Share) { s.Mode = n }))
		}
		for _, n := range []int64{-1, 1<<62 + 1, math.MaxInt64, math.MinInt64} {
			f.bad = append(f.bad, one(at, func(s *api.Share) { s.Seq = n }), one(at, func(s *api.Share) { s.KnownSeq = n }))
		}
		for n := 1; n <= 3; n++ {
			f.good = append(f.good, one(at, func(s *api.Share) { s.Mode = n }))
		}
		for _, n := range []int64{0, 1, 1 << 32, mostSeq - 1, mostSeq} {
			f.good = append(f.good, one(at, func(s *api.Share) { s.Seq = n }), one(at, func(s *api.Share) { s.KnownSeq = n }))
		}
		for _, n := range []uint64{0, 1, 1 << 32, 1<<62 + 1, math.MaxUint64} {
			f.good = append(f.good, one(at, func(s *api.Share) { s.IndexID = n }), one(at, func(s *api.Share) { s.Known = n }))
		}
	}
	return f
}

func recordsField() field {
	set := func(m *api.Message, l []api.Record) { m.Records = l }
	many := slices.Repeat([]api.Record{aLink()}, 16)
	good := [][]api.Record{nil, {}, {aDir()}, {aLink(), aLink()}, {fileOf("a", 0)}, {fileOf("a", 4096), gone()}, {gone(), aDir(), fileOf("z", 3)}, many}
	return field{"Records", []int{3, 4}, sets(set, good...), nil, sets(set, []api.Record{{}}, []api.Record{aDir()}, many)}
}

func haveField() field {
	set := func(m *api.Message, l []int) { m.Have = l }
	all := make([]int, 32)
	for i := range all {
		all[i] = i
	}
	good := [][]int{nil, {}, {0}, {31}, {0, 5}, {0, 1, 2, 30, 31}, all}
	bad := [][]int{{0, 0}, {31, 31}, {1, 0}, {5, 6, 6}, {5, 7, 6}, {-1}, {-1, 0}, {0, -1}, {32}, {0, 32}, {255}, {256}, {0, 257}, {1 << 32}, {math.MaxInt}, {math.MinInt}, {math.MaxInt, math.MinInt}, slices.Repeat([]int{3}, 32)}
	return field{"Have", []int{7}, sets(set, good...), sets(set, bad...), sets(set, []int{0}, []int{1, 0}, []int{-1}, all)}
}

// longs are what no message of any kind may have so many of.
func longs() []change {
	l := sets(func(m *api.Message, n int) { m.Shares = slices.Repeat([]api.Share{aShare(1)}, n) }, 5, 6, 257)
	l = append(l, sets(func(m *api.Message, n int) { m.Records = make([]api.Record, n) }, 17, 18, 256)...)
	l = append(l, sets(func(m *api.Message, n int) { m.Have = make([]int, n) }, 33, 34, 256)...)
	return append(l, sets(func(m *api.Message, n int) { m.Data = strings.Repeat("x", n) }, 257, 258, 512, 1<<16)...)
}

// wrongRecords are lists of records, the first of which that may not be has that error.
func wrongRecords() map[api.Errno][]change {
	wrong := map[api.Errno]api.Record{}
	for err, change := range map[api.Errno]func(r *api.Record){
		api.ErrPath: func(r *api.Record) { r.Path, r.Kind, r.By = "a//b", 4, 0 },
		api.ErrKind: func(r *api.Record) { r.Kind, r.By = 4, 0 },
		api.ErrArg:  func(r *api.Record) { r.By, r.Size = 0, 1 },
		api.ErrForm: func(r *api.Record) { r.Size = 17 },
	} {
		r := fileOf("a", 3)
		change(&r)
		wrong[err] = r
	}
	out := map[api.Errno][]change{}
	for err, r := range wrong {
		for _, other := range wrong {
			many := append(slices.Repeat([]api.Record{aDir()}, 14), r, other)
			for _, l := range [][]api.Record{{r}, {r, other}, {aDir(), r}, {r, aDir()}, {aLink(), r, gone(), other}, many} {
				out[err] = append(out[err], func(m *api.Message) { m.Records = l })
			}
		}
	}
	return out
}

// goods are messages that may be: of each kind the plain one, and ones with each field that it names at its edges.
func goods() []api.Message {
	var l []api.Message
	for kind := 1; kind <= 9; kind++ {
		l = append(l, plain(kind))
		for _, f := range fields() {
			if slices.Contains(f.kinds, kind) {
				for _, good := range f.good {
					l = append(l, with(plain(kind), good))
				}
			}
		}
	}
	return l
}

// recordBytes is a record's, by layer 6.
func recordBytes(r api.Record) []byte {
	b, _ := record.Put(nil, r)
	return b
}

// bytesOf is a message's bytes by the chapter's table, told by the library, with each number cut to its width; of records that may be.
func bytesOf(m api.Message) []byte {
	one := func(n int) []byte { return []byte{byte(n)} }
	two := func(n int) []byte { return binary.BigEndian.AppendUint16(nil, uint16(n)) }
	four := func(n int) []byte { return binary.BigEndian.AppendUint32(nil, uint32(n)) }
	text := func(s string) []byte { return append(two(len(s)), s...) }
	switch m.Kind {
	case 1:
		return one(m.Device)
	case 2:
		b := two(len(m.Shares))
		for _, s := range m.Shares {
			b = append(b, byte(s.Folder), byte(s.Mode))
			for _, n := range []uint64{s.IndexID, uint64(s.Seq), s.Known, uint64(s.KnownSeq)} {
				b = binary.BigEndian.AppendUint64(b, n)
			}
		}
		return b
	case 3, 4:
		b := append(one(m.Folder), two(len(m.Records))...)
		for _, r := range m.Records {
			b = append(b, recordBytes(r)...)
		}
		return b
	case 5:
		return slices.Concat(four(m.ID), one(m.Folder), text(m.Path), two(m.Off), two(m.Size), m.Hash[:])
	case 6:
		return slices.Concat(four(m.ID), one(int(m.Err)), text(m.Data))
	case 7:
		b := slices.Concat(one(m.Folder), text(m.Path), two(len(m.Have)))
		for _, n := range m.Have {
			b = append(b, byte(n))
		}
		return b
	case 9:
		return one(int(m.Err))
	}
	return nil
}

// reader reads bytes by the library; what is not there, or not as the chapter has it, makes it bad for good.
type reader struct {
	left []byte
	bad  bool
}

func (r *reader) take(n int) []byte {
	if r.bad || n > len(r.left) {
		r.bad = true
		return nil
	}
	b := r.left[:n]
	r.left = r.left[n:]
	return b
}

// num answers a number of a width that is from low to high.
func (r *reader) num(width int, low, high uint64) uint64 {
	b := make([]byte, 8)
	copy(b[8-width:], r.take(width))
	n := binary.BigEndian.Uint64(b)
	r.bad = r.bad || n < low || n > high
	if r.bad {
		return 0
	}
	return n
}

func (r *reader) small(low, high uint64) int { return int(r.num(1, low, high)) }

func (r *reader) text(most uint64) string { return string(r.take(int(r.num(2, 0, most)))) }

func (r *reader) path() string {
	s := r.text(160)
	r.bad = r.bad || !path.May(s)
	return s
}

func (r *reader) shares() []api.Share {
	var l []api.Share
	for i := range r.num(2, 0, 4) {
		s := api.Share{Folder: r.small(1, 4), Mode: r.small(1, 3)}
		s.IndexID = r.num(8, 0, math.MaxUint64)
		s.Seq = int64(r.num(8, 0, mostSeq))
		s.Known = r.num(8, 0, math.MaxUint64)
		s.KnownSeq = int64(r.num(8, 0, mostSeq))
		r.bad = r.bad || i > 0 && s.Folder <= l[i-1].Folder
		l = append(l, s)
	}
	return l
}

func (r *reader) records() []api.Record {
	var l []api.Record
	for range r.num(2, 0, 16) {
		from := tape.NewTape(r.left)
		l = append(l, record.Take(from))
		r.bad = r.bad || from.Err() != api.OK
		r.take(len(r.left) - from.Left())
	}
	return l
}

func (r *reader) have() []int {
	var l []int
	for i := range r.num(2, 0, 32) {
		l = append(l, r.small(0, 31))
		r.bad = r.bad || i > 0 && l[i] <= l[i-1]
	}
	return l
}

// read is P11.3's Get of a kind from 1 to 9, told by the chapter's table; ok is false of what is ErrForm.
func read(kind int, b []byte) (m api.Message, ok bool) {
	r := &reader{left: b, bad: len(b) > mostBytes}
	m.Kind = kind
	switch kind {
	case 1:
		m.Device = r.small(1, 16)
	case 2:
		m.Shares = r.shares()
	case 3, 4:
		m.Folder = r.small(1, 4)
		m.Records = r.records()
	case 5:
		m.ID = int(r.num(4, 0, 1<<31-1))
		m.Folder = r.small(1, 4)
		m.Path = r.path()
		m.Off = int(r.num(2, 0, 4096))
		m.Size = int(r.num(2, 1, 256))
		copy(m.Hash[:], r.take(32))
	case 6:
		m.ID = int(r.num(4, 0, 1<<31-1))
		m.Err = api.Errno(r.small(0, 255))
		m.Data = r.text(256)
		r.bad = r.bad || m.Err != 0 && m.Data != ""
	case 7:
		m.Folder = r.small(1, 4)
		m.Path = r.path()
		m.Have = r.have()
	case 9:
		m.Err = api.Errno(r.small(0, 255))
	}
	if r.bad || len(r.left) > 0 {
		return api.Message{}, false
	}
	return m, true
}

// alike tells whether all fields are the same, by its own looks.
func alike(a, b api.Message) bool {
	if len(a.Shares) != len(b.Shares) || len(a.Records) != len(b.Records) || len(a.Have) != len(b.Have) {
		return false
	}
	for i := range a.Shares {
		if a.Shares[i] != b.Shares[i] {
			return false
		}
	}
	for i := range a.Have {
		if a.Have[i] != b.Have[i] {
			return false
		}
	}
	for i := range a.Records {
		x, y := a.Records[i], b.Records[i]
		if !slices.Equal(x.Blocks, y.Blocks) || x.Path != y.Path || x.Kind != y.Kind || x.Deleted != y.Deleted || x.Size != y.Size || x.Time != y.Time ||
			x.By != y.By || x.Vector != y.Vector || x.BlockSize != y.BlockSize || x.Target != y.Target || x.Seq != y.Seq || x.Flags != y.Flags {
			return false
		}
	}
	return a.Kind == b.Kind && a.Device == b.Device && a.Folder == b.Folder && a.ID == b.ID && a.Path == b.Path &&
		a.Off == b.Off && a.Size == b.Size && a.Hash == b.Hash && a.Data == b.Data && a.Err == b.Err
}

// checks holds Check, and Put, against an error; what is handed in stays as it is.
func checks(t *testing.T, what string, m api.Message, want api.Errno) {
	t.Helper()
	kept := clone(m)
	if got := message.Check(m); got != want {
		t.Errorf("%s, kind %d: Check = %d, not %d", what, m.Kind, got, want)
	}
	b, err := message.Put(m)
	if err != want || want != api.OK && len(b) != 0 {
		t.Errorf("%s, kind %d: Put = %d bytes, %d, not %d", what, m.Kind, len(b), err, want)
	}
	if want == api.OK && !bytes.Equal(b, bytesOf(m)) {
		t.Errorf("%s, kind %d: Put = %x, not %x", what, m.Kind, b, bytesOf(m))
	}
	if !alike(m, kept) {
		t.Errorf("%s, kind %d: what is handed in is changed", what, m.Kind)
	}
}

// gets holds Get against a message.
func gets(t *testing.T, b []byte, want api.Message) {
	t.Helper()
	if got, err := message.Get(want.Kind, b); !alike(got, want) || err != api.OK {
		t.Errorf("Get(%d, %x) = %v, %d, not %v", want.Kind, b, got, err, want)
	}
}

// getsNone holds Get against an error, with the zero message beside.
func getsNone(t *testing.T, what string, kind int, b []byte, want api.Errno) {
	t.Helper()
	if got, err := message.Get(kind, b); !alike(got, api.Message{}) || err != want {
		t.Errorf("%s: Get(%d, %d bytes %.80x) = %v, %d, not %d", what, kind, len(b), b, got, err, want)
	}
}

// The chapter's examples.
func TestExamples(t *testing.T) {
	zeros := strings.Repeat("00", 32)
	for _, x := range []struct {
		what string
		m    api.Message
		want string
		err  api.Errno
	}{
		{"a hello", api.Message{Kind: 1, Device: 3}, "03", api.OK},
		{"a ping", api.Message{Kind: 8}, "", api.OK},
		{"a close", api.Message{Kind: 9, Err: api.ErrPeer}, "15", api.OK},
		{"a request", api.Message{Kind: 5, ID: 7, Folder: 1, Path: "a/b", Off: 16, Size: 16}, "00000007" + "01" + "0003612f62" + "0010" + "0010" + zeros, api.OK},
		{"a response", api.Message{Kind: 6, ID: 7, Data: "xy"}, "00000007" + "00" + "00027879", api.OK},
		{"a response with ErrNone and Data", api.Message{Kind: 6, ID: 7, Data: "xy", Err: api.ErrNone}, "", api.ErrArg},
		{"a response of 257 bytes", api.Message{Kind: 6, ID: 7, Data: strings.Repeat("x", 257)}, "", api.ErrLong},
		{"a config", api.Message{Kind: 2, Shares: []api.Share{{Folder: 2, Mode: api.ModeIn, IndexID: 1, Seq: 2, Known: 3, KnownSeq: 4}}},
			"00010203" + "0000000000000001" + "0000000000000002" + "0000000000000003" + "0000000000000004", api.OK},
		{"a config of the folders 2, 2", api.Message{Kind: 2, Shares: []api.Share{{Folder: 2, Mode: 3}, {Folder: 2, Mode: 3}}}, "", api.ErrArg},
		{"a progress", api.Message{Kind: 7, Folder: 1, Path: "a", Have: []int{0, 5}}, "01" + "000161" + "00020005", api.OK},
		{"a progress of /", api.Message{Kind: 7, Folder: 1, Path: "/", Have: []int{0, 5}}, "", api.ErrPath},
		{"a hello with an ID", api.Message{Kind: 1, Device: 3, ID: 1}, "", api.ErrArg},
		{"Kind 0", api.Message{}, "", api.ErrKind},
		{"an update of the directory d", api.Message{Kind: 4, Folder: 2, Records: []api.Record{aDir()}},
			"02" + "0001" + "00016402000000000903010300000001" + "000000000000000000000002", api.OK},
	} {
		checks(t, x.what, x.m, x.err)
		want, _ := hex.DecodeString(x.want)
		if got, err := message.Put(x.m); !bytes.Equal(got, want) || err != x.err {
			t.Errorf("%s: Put = %x, %d, not %x, %d", x.what, got, err, want, x.err)
		}
		if x.err == api.OK {
			gets(t, want, x.m)
		}
	}
	getsNone(t, "device 0", 1, []byte{0}, api.ErrForm)
	getsNone(t, "more than a hello", 1, []byte{3, 3}, api.ErrForm)
	getsNone(t, "more than a ping", 8, []byte{0}, api.ErrForm)
	gets(t, nil, api.Message{Kind: 8})
	gets(t, []byte{}, api.Message{Kind: 8})
	getsNone(t, "no kind", 10, nil, api.ErrKind)
}

// P11.1, P11.2, P11.5: each field that a kind names, at its edges; an empty list is as none.
func TestGood(t *testing.T) {
	for _, m := range goods() {
		checks(t, "good", m, api.OK)
		gets(t, bytesOf(m), m)
		m = with(m, func(m *api.Message) {
			m.Shares, m.Records, m.Have = append([]api.Share{}, m.Shares...), append([]api.Record{}, m.Records...), append([]int{}, m.Have...)
			for i := range m.Records {
				m.Records[i].Blocks = append([]api.Hash{}, m.Records[i].Blocks...)
			}
		})
		checks(t, "good, with empty lists", m, api.OK)
	}
}

// P11.1: Kind is none, ahead of all else.
func TestKind(t *testing.T) {
	for _, kind := range noKinds {
		set := func(m *api.Message) { m.Kind = kind }
		checks(t, "nothing else", api.Message{Kind: kind}, api.ErrKind)
		for _, m := range goods() {
			checks(t, "no kind", with(m, set), api.ErrKind)
		}
		for _, long := range longs() {
			checks(t, "no kind, long", with(plain(5), long, set), api.ErrKind)
		}
		for _, b := range [][]byte{nil, {}, {0}, {3}, bytesOf(plain(5)), make([]byte, mostBytes+1)} {
			getsNone(t, "no kind", kind, b, api.ErrKind)
		}
	}
}

// errorsOf are a kind's errors behind ErrKind, in order, each with what has it.
func errorsOf(kind int) (order []api.Errno, by map[api.Errno][]change) {
	order, by = []api.Errno{api.ErrLong}, map[api.Errno][]change{api.ErrLong: longs()}
	add := func(err api.Errno, l []change) {
		if len(l) > 0 {
			order = append(order, err)
			by[err] = l
		}
	}
	if kind == 5 || kind == 7 {
		add(api.ErrPath, sets(func(m *api.Message, p string) { m.Path = p }, noPaths...))
	}
	var wrong []change
	for _, f := range fields() {
		if slices.Contains(f.kinds, kind) {
			wrong = append(wrong, f.bad...)
		} else {
			wrong = append(wrong, f.other...)
		}
	}
	add(api.ErrArg, wrong)
	return order, by
}

// P11.1: of each kind all that is wrong, what it does not name and is not zero, too; of several errors the one that stands first.
func TestErrors(t *testing.T) {
	for kind := 1; kind <= 9; kind++ {
		order, by := errorsOf(kind)
		for i, err := range order {
			for _, first := range by[err] {
				checks(t, "one error", with(plain(kind), first), err)
				for _, later := range order[i+1:] {
					for _, second := range by[later] {
						if m := with(plain(kind), second, first); message.Check(m) != err {
							t.Fatalf("kind %d: Check of what has %d and %d = %d", kind, err, later, message.Check(m))
						}
					}
				}
			}
		}
	}
}

// P11.1: of records the first that may not be has its own error, behind ErrLong, and ahead of all else.
func TestRecordErrors(t *testing.T) {
	for _, kind := range []int{3, 4} {
		_, by := errorsOf(kind)
		for err, l := range wrongRecords() {
			for _, wrong := range l {
				checks(t, "wrong records", with(plain(kind), wrong), err)
				for _, second := range by[api.ErrArg] {
					if m := with(plain(kind), second, wrong); message.Check(m) != err {
						t.Fatalf("kind %d: Check of what has %d and ErrArg = %d", kind, err, message.Check(m))
					}
				}
				for _, long := range longs() {
					if m := with(plain(kind), wrong, long); message.Check(m) != api.ErrLong {
						t.Fatalf("kind %d: Check of what is long, and has %d = %d", kind, err, message.Check(m))
					}
				}
			}
		}
	}
}

// P11.1: what kinds do not name has no error of its own but ErrLong: it is ErrArg, a path that is none and a record that may not be, too.
func TestNotNamed(t *testing.T) {
	for kind := 1; kind <= 9; kind++ {
		if kind != 5 && kind != 7 {
			for _, p := range noPaths[1:] {
				checks(t, "no path", with(plain(kind), func(m *api.Message) { m.Path = p }), api.ErrArg)
			}
		}
		if kind != 3 && kind != 4 {
			for _, l := range wrongRecords() {
				for _, wrong := range l {
					checks(t, "wrong records", with(plain(kind), wrong), api.ErrArg)
				}
			}
		}
	}
}

// full answers an index whose bytes are n more than MaxFrame.
func full(n int) api.Message {
	m := api.Message{Kind: api.MIndex, Folder: 4, Records: slices.Repeat([]api.Record{fileOf("a", 4096)}, 15)}
	last := fileOf("n", 513)
	left := mostBytes + n - len(bytesOf(m)) - (len(recordBytes(last)) - len(last.Path))
	last.Path = strings.Repeat("n", left) // what is left is a name's length
	m.Records = append(m.Records, last)
	return m
}

// P11.2, P11.3: up to MaxFrame bytes, and not one more; though Check has nothing against it.
func TestMaxFrame(t *testing.T) {
	for n := -20; n <= 10; n++ {
		for _, kind := range []int{3, 4} {
			m := full(n)
			m.Kind = kind
			b := bytesOf(m)
			if len(b) != mostBytes+n || message.Check(m) != api.OK {
				t.Fatalf("%d bytes, Check = %d", len(b), message.Check(m))
			}
			if n <= 0 {
				checks(t, "up to MaxFrame", m, api.OK)
				gets(t, b, m)
				continue
			}
			if got, err := message.Put(m); len(got) != 0 || err != api.ErrLong {
				t.Errorf("%d bytes: Put = %d bytes, %d", len(b), len(got), err)
			}
			getsNone(t, "too many bytes", kind, b, api.ErrForm)
		}
	}
	most := api.Message{Kind: api.MUpdate, Folder: 1, Records: slices.Repeat([]api.Record{fileOf("a", 4096)}, 16)}
	if got, err := message.Put(most); len(got) != 0 || err != api.ErrLong || message.Check(most) != api.OK {
		t.Errorf("16 of the longest files: Put = %d bytes, %d", len(got), err)
	}
}

// P11.5: bytes that are cut anywhere, or have more behind them, are none of that kind's.
func TestCut(t *testing.T) {
	for _, m := range goods() {
		b := bytesOf(m)
		for cut := range b {
			getsNone(t, "cut", m.Kind, b[:cut], api.ErrForm)
		}
		for _, more := range [][]byte{{0}, {1}, {255}, {0, 0, 0, 0}, make([]byte, 1<<17)} {
			getsNone(t, "with more behind", m.Kind, slices.Concat(b, more), api.ErrForm)
		}
	}
}

// P11.3: each number that its width holds, and that is none of the kind's.
func TestGetNumbers(t *testing.T) {
	for n := range 256 {
		try := func(kind, at int) {
			t.Helper()
			b := bytesOf(plain(kind))
			b[at] = byte(n)
			want, ok := read(kind, b)
			if !ok {
				getsNone(t, "a byte at "+strconv.Itoa(at), kind, b, api.ErrForm)
				return
			}
			gets(t, b, want)
		}
		for kind := 1; kind <= 9; kind++ {
			for at := range min(len(bytesOf(plain(kind))), 100) {
				try(kind, at)
			}
		}
	}
	at := func(kind, at int, more ...byte) []byte {
		b := bytesOf(plain(kind))
		copy(b[at:], more)
		return b
	}
	for what, x := range map[string]struct {
		kind int
		b    []byte
	}{
		"device 17": {1, []byte{17}}, "folder 0": {3, at(3, 0, 0)}, "folder 5": {4, at(4, 0, 5)},
		"an ID of 2^31": {5, at(5, 0, 0x80, 0, 0, 0)}, "the last ID of four bytes": {6, at(6, 0, 255, 255, 255, 255)},
		"Off 4097": {5, at(5, 10, 0x10, 1)}, "Off 65535": {5, at(5, 10, 255, 255)},
		"Size 0": {5, at(5, 12, 0, 0)}, "Size 257": {5, at(5, 12, 1, 1)},
		"mode 4": {2, at(2, 3, 4)}, "folders that do not rise": {2, at(2, 36, 1)},
		"Seq 2^62 + 1": {2, at(2, 12, 0x40, 0, 0, 0, 0, 0, 0, 1)}, "Seq below 0": {2, at(2, 12, 255, 255, 255, 255, 255, 255, 255, 255)},
		"KnownSeq 2^62 + 1": {2, at(2, 28, 0x40, 0, 0, 0, 0, 0, 0, 1)}, "KnownSeq 2^63": {2, at(2, 28, 0x80, 0, 0, 0, 0, 0, 0, 0)},
		"Data beside an error": {6, at(6, 4, 1)}, "Have 32": {7, at(7, 8, 32)}, "Have 0, 0": {7, at(7, 6, 0, 0)}, "a path that is none": {7, at(7, 3, '/')},
		"five shares": {2, append([]byte{0, 5}, make([]byte, 5*34)...)}, "more shares than are there": {2, []byte{0, 1}},
		"17 records": {3, append([]byte{1, 0, 17}, bytes.Repeat(recordBytes(aDir()), 17)...)}, "a record that may not be": {4, append([]byte{1, 0, 1}, make([]byte, 28)...)},
		"33 numbers":  {7, append([]byte{1, 0, 1, 'a', 0, 33}, make([]byte, 33)...)},
		"257 bytes":   {6, append([]byte{0, 0, 0, 0, 0, 1, 1}, make([]byte, 257)...)},
		"a long path": {7, slices.Concat([]byte{1, 0, 161}, []byte(strings.Repeat("n/", 80)+"n"), []byte{0, 0})},
	} {
		getsNone(t, what, x.kind, x.b, api.ErrForm)
	}
}

// randomMessage answers one that may be, with fields that are often at an edge.
func randomMessage(r *rand.Rand, l []field) api.Message {
	m := plain(1 + r.Intn(9))
	for _, f := range l {
		if slices.Contains(f.kinds, m.Kind) && r.Intn(2) == 0 {
			f.good[r.Intn(len(f.good))](&m)
		}
	}
	return clone(m)
}

// randomBytes are those of a message, mostly with some that are others.
func randomBytes(r *rand.Rand, m api.Message) []byte {
	b := bytesOf(m)
	for range r.Intn(3) {
		at := r.Intn(min(len(b), 200) + 1)
		switch {
		case at == len(b) || r.Intn(8) == 0:
			b = slices.Insert(b, at, byte(r.Intn(256)>>r.Intn(9)))
		case r.Intn(8) == 0:
			b = slices.Delete(b, at, at+1)
		case r.Intn(2) == 0:
			b[at] ^= 1 << r.Intn(8)
		default:
			b[at] = byte(r.Intn(256) >> r.Intn(9))
		}
	}
	return b
}

// P11.3, P11.5: any bytes, of any kind, against a reader by the chapter's words; what is told is put as just those bytes.
func TestAnyBytes(t *testing.T) {
	r := rand.New(rand.NewSource(115))
	l := fields()
	good, none := 0, 0
	for range 60000 {
		m := randomMessage(r, l)
		b := randomBytes(r, m)
		if r.Intn(8) == 0 {
			m.Kind = 1 + r.Intn(9)
		}
		want, ok := read(m.Kind, b)
		if !ok {
			none++
			getsNone(t, "any", m.Kind, b, api.ErrForm)
			continue
		}
		good++
		gets(t, b, want)
		got, _ := message.Get(m.Kind, b)
		if again, err := message.Put(got); !bytes.Equal(again, b) || err != api.OK {
			t.Fatalf("Get(%d, %x) is put as %x, %d", m.Kind, b, again, err)
		}
	}
	if good < 15000 || none < 15000 {
		t.Errorf("only %d are got, %d are none", good, none)
	}
}

// P11.5: Get of what Put tells, and its kind, is the same message.
func TestBack(t *testing.T) {
	r := rand.New(rand.NewSource(116))
	l := fields()
	for range 20000 {
		m := randomMessage(r, l)
		b, err := message.Put(m)
		if err != api.OK {
			t.Fatalf("Put(%v) = %d", m, err)
		}
		got, err := message.Get(m.Kind, b)
		if !message.Same(got, m) || !alike(got, m) || err != api.OK {
			t.Fatalf("Get of Put(%v) = %v, %d", m, got, err)
		}
	}
}

// P11.4: each field, and each thing of each list.
func TestSame(t *testing.T) {
	whole := api.Message{Kind: 1, Device: 2, Folder: 3, ID: 4, Path: "p", Off: 5, Size: 6, Hash: api.Hash{1}, Data: "d", Err: 7,
		Shares: []api.Share{aShare(1), aShare(2)}, Records: []api.Record{fileOf("a", 40), aLink()}, Have: []int{1, 2}}
	for what, f := range map[string]change{
		"Kind": func(m *api.Message) { m.Kind = 2 }, "Device": func(m *api.Message) { m.Device = 0 }, "Folder": func(m *api.Message) { m.Folder = -3 },
		"ID": func(m *api.Message) { m.ID += 1 << 32 }, "Path": func(m *api.Message) { m.Path = "" }, "Off": func(m *api.Message) { m.Off = 4 },
		"Size": func(m *api.Message) { m.Size = math.MinInt }, "Hash": func(m *api.Message) { m.Hash[31] = 1 }, "Data": func(m *api.Message) { m.Data = "d\x00" }, "Err": func(m *api.Message) { m.Err = 0 },
		"no Shares": func(m *api.Message) { m.Shares = nil }, "fewer Shares": func(m *api.Message) { m.Shares = m.Shares[:1] }, "more Shares": func(m *api.Message) { m.Shares = append(m.Shares, api.Share{}) },
		"Shares turned": func(m *api.Message) { slices.Reverse(m.Shares) },
		"Share Folder":  func(m *api.Message) { m.Shares[1].Folder++ }, "Share Mode": func(m *api.Message) { m.Shares[0].Mode++ }, "Share IndexID": func(m *api.Message) { m.Shares[1].IndexID++ },
		"Share Seq": func(m *api.Message) { m.Shares[1].Seq++ }, "Share Known": func(m *api.Message) { m.Shares[0].Known++ }, "Share KnownSeq": func(m *api.Message) { m.Shares[1].KnownSeq++ },
		"no Have": func(m *api.Message) { m.Have = []int{} }, "fewer Have": func(m *api.Message) { m.Have = m.Have[:1] }, "more Have": func(m *api.Message) { m.Have = append(m.Have, 0) },
		"Have": func(m *api.Message) { m.Have[1]++ }, "Have turned": func(m *api.Message) { slices.Reverse(m.Have) },
		"no Records": func(m *api.Message) { m.Records = nil }, "fewer Records": func(m *api.Message) { m.Records = m.Records[:1] }, "more Records": func(m *api.Message) { m.Records = append(m.Records, api.Record{}) },
		"Records turned": func(m *api.Message) { slices.Reverse(m.Records) },
		"Record Path":    func(m *api.Message) { m.Records[1].Path = "b" }, "Record Kind": func(m *api.Message) { m.Records[0].Kind++ }, "Record Deleted": func(m *api.Message) { m.Records[1].Deleted = true },
		"Record Size": func(m *api.Message) { m.Records[0].Size++ }, "Record Time": func(m *api.Message) { m.Records[0].Time++ }, "Record By": func(m *api.Message) { m.Records[1].By++ },
		"Record Vector": func(m *api.Message) { m.Records[0].Vector[15]++ }, "Record BlockSize": func(m *api.Message) { m.Records[0].BlockSize++ }, "Record Blocks": func(m *api.Message) { m.Records[0].Blocks[2][31]++ },
		"Record fewer Blocks": func(m *api.Message) { m.Records[0].Blocks = m.Records[0].Blocks[:2] }, "Record Target": func(m *api.Message) { m.Records[1].Target = "" },
		"Record Seq": func(m *api.Message) { m.Records[1].Seq++ }, "Record Flags": func(m *api.Message) { m.Records[1].Flags = 0 },
	} {
		other := with(whole, f)
		if message.Same(whole, other) || message.Same(other, whole) {
			t.Errorf("%s: Same = true", what)
		}
		if !message.Same(other, clone(other)) {
			t.Errorf("%s: Same of the same one = false", what)
		}
	}
	empty := api.Message{Shares: []api.Share{}, Records: []api.Record{}, Have: []int{}}
	if !message.Same(api.Message{}, empty) || !message.Same(empty, api.Message{}) || !message.Same(whole, clone(whole)) {
		t.Error("Same of the same ones = false")
	}
	none := with(plain(4), func(m *api.Message) { m.Records = []api.Record{aDir()} })
	blocks := with(none, func(m *api.Message) { m.Records[0].Blocks = []api.Hash{} })
	if !message.Same(none, blocks) || !message.Same(blocks, none) {
		t.Error("a record's empty list is not as none")
	}
}

// P11.4: of any two messages, that may be or not, against looks of the test's own.
func TestSameOfAny(t *testing.T) {
	var l []api.Message
	for kind := 0; kind <= 9; kind++ {
		_, by := errorsOf(kind)
		for _, f := range by[api.ErrArg] {
			l = append(l, with(plain(kind), f))
		}
		l = append(l, plain(kind))
	}
	for _, a := range l {
		for _, b := range l {
			if got := message.Same(a, b); got != alike(a, b) {
				t.Fatalf("Same(%v, %v) = %t", a, b, got)
			}
		}
	}
}

// P11.6: Put neither changes nor keeps what is handed in, nor what stands behind a list of it; each answer is new memory.
func TestPutIsNew(t *testing.T) {
	for _, m := range goods() {
		kept := clone(m)
		m.Shares, m.Records, m.Have = slices.Grow(m.Shares, 9), slices.Grow(m.Records, 9), slices.Grow(m.Have, 9)
		first, _ := message.Put(m)
		second, _ := message.Put(m)
		clear(first[:cap(first)])
		_ = append(first, 1, 2, 3)
		if !alike(m, kept) || slices.ContainsFunc(m.Have[len(m.Have):cap(m.Have)], func(n int) bool { return n != 0 }) {
			t.Errorf("Put changes %v to %v", kept, m)
		}
		scribble(m)
		if !bytes.Equal(second, bytesOf(kept)) {
			t.Errorf("Put = %x, not %x", second, bytesOf(kept))
		}
	}
}

// scribble changes all that m's lists hold.
func scribble(m api.Message) {
	for i := range m.Records {
		for k := range m.Records[i].Blocks {
			m.Records[i].Blocks[k][0]++
		}
		m.Records[i].Blocks = append(m.Records[i].Blocks[:len(m.Records[i].Blocks):len(m.Records[i].Blocks)], api.Hash{9})
		m.Records[i].Seq++
	}
	for i := range m.Shares {
		m.Shares[i].Seq++
	}
	for i := range m.Have {
		m.Have[i]++
	}
}

// P11.6: Get neither changes nor keeps the bytes; no two answers, and no two lists of one, share memory.
func TestGetIsNew(t *testing.T) {
	for _, m := range goods() {
		b := bytesOf(m)
		memory := slices.Concat(b, bytes.Repeat([]byte{0xee}, 50))
		in := memory[:len(b)]
		first, _ := message.Get(m.Kind, in)
		second, _ := message.Get(m.Kind, in)
		if !bytes.Equal(memory, slices.Concat(b, bytes.Repeat([]byte{0xee}, 50))) {
			t.Errorf("Get changes %x", b)
		}
		clear(memory)
		if !alike(second, m) {
			t.Errorf("Get keeps the bytes of %v", m)
		}
		scribble(first)
		if !alike(second, m) {
			t.Errorf("two answers of Get share memory: %v", m)
		}
		for i := range second.Records {
			l := second.Records[i].Blocks
			clear(l[:cap(l)])
			second.Records[i].Blocks = slices.Clone(m.Records[i].Blocks)
			if !alike(second, m) {
				t.Errorf("two lists of one answer share memory: %v", m)
			}
		}
	}
}

// R1: what is huge is soon refused.
func TestHuge(t *testing.T) {
	text := strings.Repeat("n", 1<<20)
	checks(t, "Data", api.Message{Kind: 6, Data: text}, api.ErrLong)
	checks(t, "Path", api.Message{Kind: 5, Path: text}, api.ErrPath)
	checks(t, "Have", api.Message{Kind: 7, Have: make([]int, 1<<20)}, api.ErrLong)
	checks(t, "Records", api.Message{Kind: 3, Records: make([]api.Record, 1<<16+1)}, api.ErrLong)
	checks(t, "Shares", api.Message{Kind: 2, Shares: make([]api.Share, 1<<16+1)}, api.ErrLong)
	long := with(plain(3), func(m *api.Message) { m.Records[1].Target, m.Records[2].Blocks = text, make([]api.Hash, 1<<14) })
	checks(t, "a record", long, api.ErrForm)
	for kind := 1; kind <= 9; kind++ {
		for _, b := range [][]byte{make([]byte, 1<<20), bytes.Repeat([]byte{1}, 1<<20), bytes.Repeat([]byte{255}, 1<<20)} {
			getsNone(t, "huge", kind, b, api.ErrForm)
			getsNone(t, "of MaxFrame", kind, b[:mostBytes], api.ErrForm)
		}
	}
}
