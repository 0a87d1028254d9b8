package bytes_test

import (
	"encoding/binary"
	"math"
	"math/rand"
	"slices"
	"strings"
	"testing"

	"caravan/api"
	"caravan/bytes"
)

const (
	most  = 65535 // how many bytes a text may have, and how many things a row
	other = api.ErrBusy
)

var widths = []int{1, 2, 4, 8}

// noWidths are none, some of them one of the four, if some of their bits are lost.
var noWidths = []int{0, 3, 5, 6, 7, 9, 10, 12, 16, 24, 32, 64, 255, 256, 257, 258, 260, 264, 1<<16 + 1, 1<<32 + 1, 1<<32 + 8, -1, -2, -4, -8, -255, -256, 1 - 1<<32, math.MaxInt32, math.MinInt32, math.MaxInt, math.MinInt, math.MinInt + 1}

var numbers = []uint64{0, 1, 2, 127, 128, 254, 255, 256, 257, 513, 65534, 65535, 65536, 1<<24 - 1, 1 << 24, 1<<31 - 1, 1 << 31, 1<<32 - 1, 1 << 32, 1<<32 + 7, 1<<56 - 1, 1 << 56, 1<<62 - 1, 1 << 62, 1<<62 + 1, 1<<63 - 1, 1 << 63, math.MaxUint64 - 1, math.MaxUint64, 0x0102030405060708, 0xf1e2d3c4b5a69788}

// lengths are how many bytes or things are tried out.
var lengths = []int{0, 1, 2, 3, 127, 128, 255, 256, 257, 511, 4096, 32767, 32768, most - 1, most}

// noise answers n bytes that look like no pattern, always the same ones.
func noise(n int) []byte {
	out := make([]byte, n)
	rand.New(rand.NewSource(4)).Read(out)
	return out
}

// inBytes is a number of a width, by the library.
func inBytes(width int, n uint64) []byte {
	all := binary.BigEndian.AppendUint64(nil, n)
	return all[8-width:]
}

func joined(parts ...[]byte) []byte { return slices.Concat(parts...) }

// roomy answers bytes with room for many more behind them, and all of that memory.
func roomy(b []byte) (part, all []byte) {
	all = slices.Repeat([]byte{0xee}, len(b)+200)
	copy(all, b)
	return all[:len(b)], all
}

func putNum(width int) func([]byte, uint64) ([]byte, api.Errno) {
	return func(b []byte, n uint64) ([]byte, api.Errno) { return bytes.Put(b, width, n), api.OK }
}

func takeNum(width int) func(*bytes.Tape) uint64 {
	return func(t *bytes.Tape) uint64 { return t.Num(width) }
}

// appendByte puts as append does: into the memory that it is handed, if there is room.
func appendByte(b []byte, x byte) ([]byte, api.Errno) { return append(b, x), api.OK }

func takeByte(t *bytes.Tape) byte { return byte(t.Num(1)) }

func putTexts(b []byte, l []string) ([]byte, api.Errno) { return bytes.PutRow(b, l, bytes.PutText) }

func takeText(t *bytes.Tape) string { return t.Text(most) }

// state is what a tape tells of itself without being changed.
type state struct {
	left int
	err  api.Errno
}

func stateOf(t *bytes.Tape) state { return state{t.Left(), t.Err()} }

// staysTorn asks a torn tape for all that there is: it answers zero values, and stays where it is.
func staysTorn(t *testing.T, tape *bytes.Tape, left int) {
	t.Helper()
	torn := state{left, api.ErrForm}
	check := func(what string, zero bool) {
		t.Helper()
		if !zero || stateOf(tape) != torn {
			t.Errorf("%s of a torn tape: zero %t, and then %v, not %v", what, zero, stateOf(tape), torn)
		}
	}
	check("nothing", true)
	check("Num", tape.Num(1) == 0)
	check("Num of no width", tape.Num(3) == 0)
	check("Below", tape.Below(1, math.MaxUint64) == 0)
	check("Text", tape.Text(most) == "")
	check("Text of less than none", tape.Text(-1) == "")
	check("Bytes", len(tape.Bytes(1)) == 0)
	check("no Bytes", len(tape.Bytes(0)) == 0)
	check("less than no Bytes", len(tape.Bytes(-1)) == 0)
	called := false
	row := bytes.Row(tape, most, func(*bytes.Tape) int { called = true; return 1 })
	check("Row", len(row) == 0 && !called)
	tape.Tear()
	check("Tear", true)
	check("End", tape.End() == api.ErrForm)
}

// The chapter's examples.
func TestExamples(t *testing.T) {
	for _, x := range []struct {
		b     []byte
		width int
		n     uint64
		want  []byte
	}{
		{nil, 2, 513, []byte{2, 1}},
		{nil, 4, 1<<32 + 7, []byte{0, 0, 0, 7}},
		{[]byte{9}, 1, 255, []byte{9, 0xff}},
		{[]byte{9}, 3, 1, []byte{9}},
	} {
		if got := bytes.Put(x.b, x.width, x.n); !slices.Equal(got, x.want) {
			t.Errorf("Put(%x, %d, %d) = %x", x.b, x.width, x.n, got)
		}
	}
	if got, err := bytes.PutText(nil, "ab"); !slices.Equal(got, []byte{0, 2, 0x61, 0x62}) || err != api.OK {
		t.Errorf("PutText = %x, %d", got, err)
	}
	if got, err := bytes.PutText(nil, strings.Repeat("a", 65536)); len(got) != 0 || err != api.ErrLong {
		t.Errorf("PutText of 65536 bytes = %d bytes, %d", len(got), err)
	}
	text := []byte{0, 2, 0x61, 0x62}
	if got := bytes.NewTape(text).Text(2); got != "ab" {
		t.Errorf("Text(2) = %q", got)
	}
	for what, ask := range map[string]func(*bytes.Tape){
		"Text(1)":  func(tape *bytes.Tape) { tape.Text(1) },
		"Num(8)":   func(tape *bytes.Tape) { tape.Num(8) },
		"Bytes(5)": func(tape *bytes.Tape) { tape.Bytes(5) },
	} {
		tape := bytes.NewTape(text)
		if ask(tape); tape.Err() != api.ErrForm {
			t.Errorf("%s does not tear", what)
		}
	}
	tape := bytes.NewTape([]byte{0, 5})
	if n, err := tape.Below(2, 5), tape.End(); n != 5 || err != api.OK {
		t.Errorf("Below(2, 5) = %d, End = %d", n, err)
	}
	tape = bytes.NewTape([]byte{0, 6})
	if n, left, err := tape.Below(2, 5), tape.Left(), tape.Err(); n != 0 || left != 2 || err != api.ErrForm {
		t.Errorf("Below(2, 5) = %d, Left = %d, Err = %d", n, left, err)
	}
	for _, x := range []struct {
		b    []byte
		most int
		want []uint64
		err  api.Errno
	}{
		{[]byte{0, 2, 7, 9}, 2, []uint64{7, 9}, api.OK},
		{[]byte{0, 2, 7, 9}, 1, nil, api.ErrForm},
		{[]byte{0, 3, 7, 9}, 3, nil, api.ErrForm},
	} {
		tape := bytes.NewTape(x.b)
		if got := bytes.Row(tape, x.most, takeNum(1)); !slices.Equal(got, x.want) || tape.Err() != x.err {
			t.Errorf("Row of %x of at most %d = %v, %d", x.b, x.most, got, tape.Err())
		}
	}
}

// P4.1: Put of each width, behind bytes of several lengths; of no width.
func TestPut(t *testing.T) {
	for _, n := range []int{0, 1, 2, 7, 8, 9, 100} {
		b := noise(n)
		for _, x := range numbers {
			for _, width := range widths {
				if got, want := bytes.Put(b, width, x), joined(b, inBytes(width, x)); !slices.Equal(got, want) {
					t.Errorf("Put(%x, %d, %d) = %x, not %x", b, width, x, got, want)
				}
			}
			for _, width := range noWidths {
				if got := bytes.Put(b, width, x); !slices.Equal(got, b) {
					t.Errorf("Put(%x, %d, %d) = %x", b, width, x, got)
				}
			}
		}
	}
}

// P4.1: PutText up to the longest one, and what is longer.
func TestPutText(t *testing.T) {
	for _, n := range lengths {
		for _, b := range [][]byte{nil, {}, {1}, noise(300)} {
			text := noise(n)
			want := joined(b, inBytes(2, uint64(n)), text)
			if got, err := bytes.PutText(b, string(text)); !slices.Equal(got, want) || err != api.OK {
				t.Errorf("PutText of %d bytes behind %d: %d bytes, %d", n, len(b), len(got), err)
			}
		}
	}
	for _, text := range []string{"\x00", "\xff\xfe", "a\x00b", "\u00e4\u4e16", "\xed\xa0\x80"} {
		want := joined([]byte{0, byte(len(text))}, []byte(text))
		if got, err := bytes.PutText(nil, text); !slices.Equal(got, want) || err != api.OK {
			t.Errorf("PutText of %q = %x, %d", text, got, err)
		}
	}
	for _, n := range []int{most + 1, most + 2, 2 * most, 1 << 17, 1<<17 + 1, 1 << 20} {
		if got, err := bytes.PutText([]byte{1}, strings.Repeat("x", n)); len(got) != 0 || err != api.ErrLong {
			t.Errorf("PutText of %d bytes: %d bytes, %d", n, len(got), err)
		}
	}
}

// P4.1: PutRow of numbers of each width, up to the longest row, and of what is longer, of which none is put.
func TestPutRow(t *testing.T) {
	for _, width := range widths {
		b := noise(5)
		want := joined(b, inBytes(2, uint64(len(numbers))))
		for _, n := range numbers {
			want = append(want, inBytes(width, n)...)
		}
		if got, err := bytes.PutRow(b, numbers, putNum(width)); !slices.Equal(got, want) || err != api.OK {
			t.Errorf("PutRow of the width %d = %x, %d, not %x", width, got, err, want)
		}
	}
	for _, n := range lengths {
		l := noise(n)
		want := joined([]byte{1}, inBytes(2, uint64(n)), l)
		if got, err := bytes.PutRow([]byte{1}, l, appendByte); !slices.Equal(got, want) || err != api.OK {
			t.Errorf("PutRow of %d things: %d bytes, %d", n, len(got), err)
		}
	}
	for _, n := range []int{most + 1, most + 2, 2 * most, 1 << 17, 1<<17 + 1} {
		called := false
		put := func(b []byte, x byte) ([]byte, api.Errno) { called = true; return b, other }
		if got, err := bytes.PutRow([]byte{1}, make([]byte, n), put); len(got) != 0 || err != api.ErrLong || called {
			t.Errorf("PutRow of %d things: %d bytes, %d; put is called: %t", n, len(got), err, called)
		}
	}
}

// P4.1: a row of texts, of rows, of things that have no bytes.
func TestPutRowOfOthers(t *testing.T) {
	texts := []string{"ab", "", "c"}
	inBytesOfTexts := []byte{0, 3, 0, 2, 'a', 'b', 0, 0, 0, 1, 'c'}
	if got, err := putTexts([]byte{7}, texts); !slices.Equal(got, joined([]byte{7}, inBytesOfTexts)) || err != api.OK {
		t.Errorf("PutRow of texts = %x, %d", got, err)
	}
	want := joined([]byte{0, 3, 0, 0}, inBytesOfTexts, inBytesOfTexts)
	if got, err := bytes.PutRow(nil, [][]string{nil, texts, texts}, putTexts); !slices.Equal(got, want) || err != api.OK {
		t.Errorf("PutRow of rows = %x, %d", got, err)
	}
	nothing := func(b []byte, x struct{}) ([]byte, api.Errno) { return b, api.OK }
	if got, err := bytes.PutRow(nil, make([]struct{}, 3), nothing); !slices.Equal(got, []byte{0, 3}) || err != api.OK {
		t.Errorf("PutRow of nothings = %x, %d", got, err)
	}
}

// P4.1: put is called once for each thing, from the first one on, with what stands ahead of it; its first error ends it.
func TestPutRowEnds(t *testing.T) {
	l := []int{10, 20, 30, 40, 50}
	for last := range len(l) + 1 {
		for _, e := range []api.Errno{api.ErrNil, api.ErrLong, api.ErrForm, other, -1, 1000} {
			var met []int
			want := []byte{9, 0, 5}
			put := func(b []byte, x int) ([]byte, api.Errno) {
				if !slices.Equal(b, want) {
					t.Errorf("thing %d is put behind %x, not %x", x, b, want)
				}
				if len(met) == last {
					met = append(met, x)
					return append(b, 1), e
				}
				met = append(met, x)
				want = append(want, byte(x))
				return append(b, byte(x)), api.OK
			}
			got, err := bytes.PutRow([]byte{9}, l, put)
			if last == len(l) {
				if !slices.Equal(got, []byte{9, 0, 5, 10, 20, 30, 40, 50}) || err != api.OK || !slices.Equal(met, l) {
					t.Errorf("PutRow = %x, %d, with %v", got, err, met)
				}
			} else if len(got) != 0 || err != e || !slices.Equal(met, l[:last+1]) {
				t.Errorf("the error %d at %d: %x, %d, with %v", e, last, got, err, met)
			}
		}
	}
	long := []string{"a", strings.Repeat("x", most+1), "b"}
	if got, err := putTexts([]byte{9}, long); len(got) != 0 || err != api.ErrLong {
		t.Errorf("of a text that is too long: %d bytes, %d", len(got), err)
	}
	if got, err := bytes.PutRow([]byte{9}, [][]string{{"a"}, long}, putTexts); len(got) != 0 || err != api.ErrLong {
		t.Errorf("of a row with such a text: %d bytes, %d", len(got), err)
	}
}

// P4.1 and R4: what b has is not written to, nor what stands behind it; what is answered is new memory.
func TestPutWritesToNothing(t *testing.T) {
	calls := map[string]func(b []byte) []byte{
		"PutText":    func(b []byte) []byte { out, _ := bytes.PutText(b, "abc"); return out },
		"no PutText": func(b []byte) []byte { out, _ := bytes.PutText(b, ""); return out },
		"PutRow":     func(b []byte) []byte { out, _ := bytes.PutRow(b, []byte{1, 2, 3}, appendByte); return out },
		"no PutRow":  func(b []byte) []byte { out, _ := bytes.PutRow(b, nil, appendByte); return out },
		"a PutRow that writes over all": func(b []byte) []byte {
			out, _ := bytes.PutRow(b, []byte{1, 2, 3}, func(b []byte, x byte) ([]byte, api.Errno) {
				clear(b[:cap(b)])
				return b, api.OK
			})
			return out
		},
		"a PutRow that fails": func(b []byte) []byte {
			out, _ := bytes.PutRow(b, []byte{1}, func(b []byte, x byte) ([]byte, api.Errno) {
				clear(b[:cap(b)])
				return append(b, 1), other
			})
			return out
		},
	}
	for _, width := range append(slices.Clone(widths), noWidths...) {
		calls["Put"] = func(b []byte) []byte { return bytes.Put(b, width, 5) }
		for what, call := range calls {
			for _, n := range []int{0, 1, 20} {
				part, all := roomy(noise(n))
				kept := slices.Clone(all)
				out := call(part)
				clear(out[:cap(out)])
				if !slices.Equal(all, kept) {
					t.Errorf("%s of %d bytes, %d: what was handed in is changed", what, n, width)
				}
				first, second := call(part), call(part)
				want := slices.Clone(first)
				clear(second[:cap(second)])
				if !slices.Equal(first, want) {
					t.Errorf("%s of %d bytes, %d: two answers share memory", what, n, width)
				}
			}
		}
	}
}

// P4.1 and R4: what put keeps of what it was handed, or answered, has no part in the answer.
func TestPutRowIsNotKept(t *testing.T) {
	var kept [][]byte
	put := func(b []byte, x byte) ([]byte, api.Errno) {
		out := append(b, x)
		kept = append(kept, b[:cap(b)], out[:cap(out)])
		return out, api.OK
	}
	got, err := bytes.PutRow(nil, []byte{1, 2, 3, 4, 5, 6, 7, 8, 9}, put)
	for _, b := range kept {
		clear(b)
	}
	if !slices.Equal(got, []byte{0, 9, 1, 2, 3, 4, 5, 6, 7, 8, 9}) || err != api.OK {
		t.Errorf("PutRow = %x, %d", got, err)
	}
}

// R4: the things of a row are not changed.
func TestPutRowKeepsTheList(t *testing.T) {
	l := noise(300)
	kept := slices.Clone(l)
	if _, err := bytes.PutRow(nil, l, appendByte); err != api.OK || !slices.Equal(l, kept) {
		t.Errorf("PutRow: %d; the list is the same: %t", err, slices.Equal(l, kept))
	}
}

// R1: a put or a take that is nil, or that panics, makes no call panic.
func TestFunctionsThatPanic(t *testing.T) {
	if got, err := bytes.PutRow[int]([]byte{1}, []int{1, 2}, nil); len(got) != 0 || err != api.ErrNil {
		t.Errorf("PutRow by nil = %x, %d", got, err)
	}
	if got, err := bytes.PutRow[int]([]byte{1}, nil, nil); !slices.Equal(got, []byte{1, 0, 0}) || err != api.OK {
		t.Errorf("PutRow of none by nil = %x, %d", got, err)
	}
	if got, err := bytes.PutRow[byte](nil, make([]byte, most+1), nil); len(got) != 0 || err != api.ErrLong {
		t.Errorf("PutRow of too many by nil = %x, %d", got, err)
	}
	calls := 0
	got, err := bytes.PutRow([]byte{1}, []int{1, 2, 3}, func(b []byte, x int) ([]byte, api.Errno) {
		calls++
		if x == 2 {
			panic("put")
		}
		return b, api.OK
	})
	if len(got) != 0 || err != api.ErrNil || calls != 2 {
		t.Errorf("PutRow by what panics = %x, %d, with %d calls", got, err, calls)
	}
	tape := bytes.NewTape([]byte{0, 2, 7, 9})
	if row := bytes.Row[int](tape, 2, nil); len(row) != 0 {
		t.Errorf("Row by nil = %v", row)
	}
	staysTorn(t, tape, 2)
	tape = bytes.NewTape([]byte{0, 0, 7})
	if row := bytes.Row[int](tape, 2, nil); len(row) != 0 || stateOf(tape) != (state{1, api.OK}) {
		t.Errorf("Row of none by nil = %v, then %v", row, stateOf(tape))
	}
	tape = bytes.NewTape([]byte{0, 3, 7, 8, 9})
	calls = 0
	row := bytes.Row(tape, 3, func(tape *bytes.Tape) uint64 {
		calls++
		if n := tape.Num(1); n != 8 {
			return n
		}
		panic("take")
	})
	if len(row) != 0 || calls != 2 {
		t.Errorf("Row by what panics = %v, with %d calls", row, calls)
	}
	staysTorn(t, tape, 1)
}

// P4.2: Num of each width, one behind the other; too few bytes tear it, and are left.
func TestNum(t *testing.T) {
	for _, width := range widths {
		var all []byte
		for _, n := range numbers {
			all = append(all, inBytes(width, n)...)
		}
		tape := bytes.NewTape(all)
		for i, n := range numbers {
			want := n << (64 - 8*width) >> (64 - 8*width)
			if got := tape.Num(width); got != want || stateOf(tape) != (state{len(all) - (i+1)*width, api.OK}) {
				t.Errorf("Num(%d) = %d, not %d; then %v", width, got, want, stateOf(tape))
			}
		}
		if err := tape.End(); err != api.OK {
			t.Errorf("End = %d", err)
		}
		for n := range width {
			tape := bytes.NewTape(slices.Repeat([]byte{1}, n+3))
			tape.Bytes(3)
			if got := tape.Num(width); got != 0 {
				t.Errorf("Num(%d) of %d bytes = %d", width, n, got)
			}
			staysTorn(t, tape, n)
		}
	}
	for _, width := range noWidths {
		for _, n := range []int{0, 1, 300} {
			tape := bytes.NewTape(slices.Repeat([]byte{1}, n))
			if got := tape.Num(width); got != 0 {
				t.Errorf("Num(%d) = %d", width, got)
			}
			staysTorn(t, tape, n)
		}
	}
}

// P4.2: Below of each number and each bound.
func TestBelow(t *testing.T) {
	for _, width := range widths {
		for _, x := range numbers {
			n := x << (64 - 8*width) >> (64 - 8*width)
			for _, bound := range append(slices.Clone(numbers), n, n-1, n+1) {
				tape := bytes.NewTape(joined(inBytes(width, n), []byte{9}))
				got := tape.Below(width, bound)
				if n > bound || n > 1<<62 {
					if got != 0 {
						t.Errorf("Below(%d, %d) of %d = %d", width, bound, n, got)
					}
					staysTorn(t, tape, width+1)
				} else if got != int(n) || stateOf(tape) != (state{1, api.OK}) {
					t.Errorf("Below(%d, %d) of %d = %d; then %v", width, bound, n, got, stateOf(tape))
				}
			}
		}
		for n := range width {
			tape := bytes.NewTape(make([]byte, n))
			if got := tape.Below(width, math.MaxUint64); got != 0 {
				t.Errorf("Below(%d) of %d bytes = %d", width, n, got)
			}
			staysTorn(t, tape, n)
		}
	}
	for _, width := range noWidths {
		tape := bytes.NewTape(make([]byte, 300))
		if got := tape.Below(width, math.MaxUint64); got != 0 {
			t.Errorf("Below(%d) = %d", width, got)
		}
		staysTorn(t, tape, 300)
	}
}

// P4.2: Text of each length, with at most as many bytes, with one less; none below 0; of what is cut.
func TestText(t *testing.T) {
	for _, n := range lengths {
		text := noise(n)
		all := joined(inBytes(2, uint64(n)), text, []byte{9})
		for _, bound := range []int{n, n + 1, most, most + 1, 1 << 32, math.MaxInt} {
			tape := bytes.NewTape(all)
			if got := tape.Text(bound); got != string(text) || stateOf(tape) != (state{1, api.OK}) {
				t.Errorf("Text(%d) of %d bytes: %d bytes; then %v", bound, n, len(got), stateOf(tape))
			}
		}
		for _, bound := range []int{n - 1, n / 2, 0, -1, -2, n - 1<<16, -1 << 32, n - 1<<32, math.MinInt} {
			if bound >= n {
				continue
			}
			tape := bytes.NewTape(all)
			if got := tape.Text(bound); got != "" {
				t.Errorf("Text(%d) of %d bytes: %d bytes", bound, n, len(got))
			}
			staysTorn(t, tape, len(all))
		}
		for _, cut := range []int{0, 1, 2, 2 + n/2, 1 + n} {
			if cut >= 2+n {
				continue
			}
			tape := bytes.NewTape(all[:cut])
			if got := tape.Text(most); got != "" {
				t.Errorf("Text of %d bytes, cut at %d: %d bytes", n, cut, len(got))
			}
			staysTorn(t, tape, cut)
		}
	}
	for _, all := range [][]byte{nil, {0}, {0, 0}, {0, 1}, {0, 1, 2}} {
		tape := bytes.NewTape(all)
		if got := tape.Text(-1); got != "" {
			t.Errorf("Text(-1) of %x = %q", all, got)
		}
		staysTorn(t, tape, len(all))
	}
}

// P4.2: Bytes of each length up to all that are left; more, or less than none, tear it.
func TestBytes(t *testing.T) {
	all := noise(40)
	for from := range len(all) + 1 {
		for n := range len(all) - from + 1 {
			tape := bytes.NewTape(all)
			ahead, got := tape.Bytes(from), tape.Bytes(n)
			if !slices.Equal(ahead, all[:from]) || !slices.Equal(got, all[from:from+n]) {
				t.Errorf("Bytes(%d) = %x, Bytes(%d) = %x", from, ahead, n, got)
			}
			if stateOf(tape) != (state{len(all) - from - n, api.OK}) {
				t.Errorf("behind %d and %d: %v", from, n, stateOf(tape))
			}
		}
		for _, n := range []int{-1, -2, -len(all), math.MinInt, math.MinInt + 1, len(all) - from + 1, len(all) + 1, 1 << 32, math.MaxInt - 1, math.MaxInt} {
			tape := bytes.NewTape(all)
			tape.Bytes(from)
			if got := tape.Bytes(n); len(got) != 0 {
				t.Errorf("Bytes(%d) behind %d = %x", n, from, got)
			}
			staysTorn(t, tape, len(all)-from)
		}
	}
}

// R4: a tape does not keep what it was made of, and what it answers is new memory, of which it does not know any more.
func TestBytesAreNew(t *testing.T) {
	all := []byte{1, 2, 3, 4, 0, 1, 'x', 5, 6, 7, 8}
	part, memory := roomy(all)
	kept := slices.Clone(memory)
	tape := bytes.NewTape(part)
	twin := *tape
	clear(part)
	first := tape.Bytes(2)
	clear(first[:cap(first)])
	_ = append(first, 0xaa, 0xaa, 0xaa)
	second := tape.Bytes(2)
	if want := []byte{3, 4}; !slices.Equal(second, want) {
		t.Errorf("Bytes = %x, not %x", second, want)
	}
	if got := twin.Bytes(4); !slices.Equal(got, []byte{1, 2, 3, 4}) {
		t.Errorf("of the copy of a tape: Bytes = %x", got)
	}
	_ = append(second, 0xbb)
	if text := tape.Text(1); text != "x" {
		t.Errorf("Text = %q", text)
	}
	if n := tape.Num(4); n != 0x05060708 {
		t.Errorf("Num = %x", n)
	}
	copy(memory, all)
	if !slices.Equal(memory, kept) {
		t.Error("what stands behind the bytes that were handed in is changed")
	}
	rows := bytes.Row(bytes.NewTape([]byte{0, 3, 1, 2, 3, 4, 5, 6}), 3, func(tape *bytes.Tape) []byte { return tape.Bytes(2) })
	clear(rows[0][:cap(rows[0])])
	_ = append(rows[1], 0xcc)
	if !slices.Equal(rows[1], []byte{3, 4}) || !slices.Equal(rows[2], []byte{5, 6}) {
		t.Errorf("Row = %x", rows)
	}
}

// P4.2: Row of each length, with at most as many things, with one less; none below 0.
func TestRow(t *testing.T) {
	for _, n := range lengths {
		l := noise(n)
		all := joined(inBytes(2, uint64(n)), l, []byte{9})
		for _, bound := range []int{n, n + 1, most, most + 1, 1 << 32, math.MaxInt} {
			tape := bytes.NewTape(all)
			if got := bytes.Row(tape, bound, takeByte); !slices.Equal(got, l) || stateOf(tape) != (state{1, api.OK}) {
				t.Errorf("Row of %d things, at most %d: %d; then %v", n, bound, len(got), stateOf(tape))
			}
		}
		for _, bound := range []int{n - 1, n / 2, 0, -1, -2, n - 1<<16, -1 << 32, n - 1<<32, math.MinInt} {
			if bound >= n {
				continue
			}
			tape, called := bytes.NewTape(all), false
			got := bytes.Row(tape, bound, func(*bytes.Tape) byte { called = true; return 1 })
			if len(got) != 0 || called {
				t.Errorf("Row of %d things, at most %d: %d; take is called: %t", n, bound, len(got), called)
			}
			staysTorn(t, tape, len(all))
		}
	}
	for _, all := range [][]byte{nil, {0}, {7}} {
		for _, bound := range []int{-1, 0, 1, most, math.MaxInt} {
			tape, called := bytes.NewTape(all), false
			got := bytes.Row(tape, bound, func(*bytes.Tape) byte { called = true; return 1 })
			if len(got) != 0 || called {
				t.Errorf("Row of %x, at most %d: %v; take is called: %t", all, bound, got, called)
			}
			staysTorn(t, tape, len(all))
		}
	}
}

// P4.2 and P4.3: a row that tears in the midst answers none, and take is not called any more; its number, and the things ahead of the one that tore it, are taken.
func TestRowThatTears(t *testing.T) {
	all := []byte{0, 4, 0, 1, 0, 2, 0, 3, 0, 4}
	for cut := 2; cut < len(all); cut++ {
		tape, calls := bytes.NewTape(all[:cut]), 0
		got := bytes.Row(tape, 4, func(tape *bytes.Tape) uint64 {
			calls++
			return tape.Num(2)
		})
		if len(got) != 0 || calls != cut/2 {
			t.Errorf("Row, cut at %d = %v, with %d calls", cut, got, calls)
		}
		staysTorn(t, tape, cut%2)
	}
	for last := 1; last <= 4; last++ {
		tape, calls := bytes.NewTape(all), 0
		got := bytes.Row(tape, 4, func(tape *bytes.Tape) uint64 {
			if calls++; calls == last {
				tape.Tear()
			}
			tape.Num(2)
			return 5
		})
		if len(got) != 0 || calls != last {
			t.Errorf("Row, torn by the thing %d = %v, with %d calls", last, got, calls)
		}
		staysTorn(t, tape, 2*(5-last))
	}
}

// P4.2: rows of texts, of rows, of things that have no bytes, and of what is on another tape.
func TestRowOfOthers(t *testing.T) {
	l := [][]string{nil, {"ab", "", "c"}, {""}, {strings.Repeat("x", most)}}
	all, err := bytes.PutRow([]byte{9}, l, putTexts)
	if err != api.OK {
		t.Fatalf("PutRow: %d", err)
	}
	takeTexts := func(tape *bytes.Tape) []string { return bytes.Row(tape, 3, takeText) }
	tape := bytes.NewTape(all)
	tape.Num(1)
	got := bytes.Row(tape, 4, takeTexts)
	if !slices.EqualFunc(got, l, slices.Equal[[]string]) || tape.End() != api.OK {
		t.Errorf("Row = %d rows; End = %d", len(got), tape.End())
	}
	tape = bytes.NewTape(all[1 : len(all)-1])
	if got := bytes.Row(tape, 4, takeTexts); len(got) != 0 || stateOf(tape) != (state{most + 1, api.ErrForm}) {
		t.Errorf("Row of what is cut: %d rows; then %v", len(got), stateOf(tape))
	}
	calls := 0
	tape = bytes.NewTape([]byte{0xff, 0xff})
	nothings := bytes.Row(tape, most, func(*bytes.Tape) struct{} { calls++; return struct{}{} })
	if len(nothings) != most || calls != most || tape.End() != api.OK {
		t.Errorf("Row of nothings: %d, with %d calls", len(nothings), calls)
	}
	beside := bytes.NewTape([]byte{1, 2})
	tape = bytes.NewTape([]byte{0, 3})
	numbers := bytes.Row(tape, 3, func(*bytes.Tape) uint64 { return beside.Num(1) })
	if !slices.Equal(numbers, []uint64{1, 2, 0}) || tape.End() != api.OK || beside.Err() != api.ErrForm {
		t.Errorf("Row of another tape = %v", numbers)
	}
}

// P4.2: Tear, anywhere.
func TestTear(t *testing.T) {
	for n := range 5 {
		for at := range n + 1 {
			tape := bytes.NewTape(noise(n))
			tape.Bytes(at)
			tape.Tear()
			staysTorn(t, tape, n-at)
		}
	}
}

// P4.3: End tears what has bytes left, and them alone.
func TestEnd(t *testing.T) {
	for n := range 5 {
		for at := range n + 1 {
			tape := bytes.NewTape(noise(n))
			tape.Bytes(at)
			want := state{n - at, api.OK}
			if at < n {
				want.err = api.ErrForm
			}
			if err := tape.End(); err != want.err || stateOf(tape) != want {
				t.Errorf("End at %d of %d = %d; then %v", at, n, err, stateOf(tape))
			}
			if at < n {
				staysTorn(t, tape, n-at)
			} else if tape.End() != api.OK || tape.Num(1) != 0 || tape.End() != api.ErrForm {
				t.Errorf("behind End: %v", stateOf(tape))
			}
		}
	}
	for _, b := range [][]byte{nil, {}} {
		if tape := bytes.NewTape(b); stateOf(tape) != (state{0, api.OK}) || tape.End() != api.OK {
			t.Errorf("of no bytes: %v", stateOf(tape))
		}
	}
}

// R3: a nil tape, and one that NewTape did not make, before and behind all calls.
func TestNoTape(t *testing.T) {
	for _, tape := range []*bytes.Tape{nil, {}, new(bytes.Tape)} {
		for range 2 {
			if tape.Err() != api.ErrNil || tape.End() != api.ErrNil || tape.Left() != 0 {
				t.Errorf("Err = %d, End = %d, Left = %d", tape.Err(), tape.End(), tape.Left())
			}
			if tape.Num(1) != 0 || tape.Num(0) != 0 || tape.Below(8, 5) != 0 || tape.Text(0) != "" || tape.Text(-1) != "" {
				t.Error("a number, or a text")
			}
			if len(tape.Bytes(0)) != 0 || len(tape.Bytes(1)) != 0 || len(tape.Bytes(-1)) != 0 {
				t.Error("bytes")
			}
			for _, bound := range []int{-1, 0, 3} {
				called := false
				row := bytes.Row(tape, bound, func(*bytes.Tape) int { called = true; return 1 })
				if len(row) != 0 || called || len(bytes.Row[int](tape, bound, nil)) != 0 {
					t.Errorf("Row of at most %d = %v; take is called: %t", bound, row, called)
				}
			}
			tape.Tear()
		}
	}
}

// step is one thing of a script: which one its kind says.
type step struct {
	kind  int // a width, or one of the kinds below
	n     uint64
	text  string
	texts []string
}

const (
	aText = 16
	bare  = 17 // bytes that stand alone
	aRow  = 18
)

func randomText(r *rand.Rand) string {
	out := make([]byte, r.Intn(6))
	r.Read(out)
	return string(out)
}

func randomStep(r *rand.Rand) step {
	switch kind := r.Intn(7); kind {
	case 0, 1, 2, 3:
		n := r.Uint64() >> r.Intn(64)
		return step{kind: widths[kind], n: n << (64 - 8*widths[kind]) >> (64 - 8*widths[kind])}
	case 4:
		return step{kind: aText, text: randomText(r)}
	case 5:
		return step{kind: bare, text: randomText(r)}
	}
	texts := make([]string, r.Intn(4))
	for i := range texts {
		texts[i] = randomText(r)
	}
	return step{kind: aRow, texts: texts}
}

func (x step) put(b []byte) []byte {
	switch x.kind {
	case aText:
		b, _ = bytes.PutText(b, x.text)
	case bare:
		b = append(slices.Clone(b), x.text...)
	case aRow:
		b, _ = putTexts(b, x.texts)
	default:
		b = bytes.Put(b, x.kind, x.n)
	}
	return b
}

// take takes what has the form of x.
func (x step) take(tape *bytes.Tape) step {
	out := step{kind: x.kind}
	switch x.kind {
	case aText:
		out.text = tape.Text(most)
	case bare:
		out.text = string(tape.Bytes(len(x.text)))
	case aRow:
		out.texts = bytes.Row(tape, most, takeText)
	default:
		out.n = tape.Num(x.kind)
	}
	return out
}

func (x step) same(y step) bool {
	return x.kind == y.kind && x.n == y.n && x.text == y.text && slices.Equal(x.texts, y.texts)
}

// P4.4: what was put is taken back; cut anywhere it tears the tape, or ends ahead of what was put, and what is taken ahead of that is the same.
func TestBack(t *testing.T) {
	r := rand.New(rand.NewSource(44))
	for range 300 {
		script := make([]step, r.Intn(8))
		var all []byte
		ends := []int{0} // behind so many steps
		for i := range script {
			script[i] = randomStep(r)
			all = script[i].put(all)
			ends = append(ends, len(all))
		}
		for cut := range len(all) + 1 {
			tape := bytes.NewTape(all[:cut])
			for i, x := range script {
				want := step{kind: x.kind}
				there := ends[i+1] <= cut
				if there {
					want = x
				}
				if got := x.take(tape); !got.same(want) || there != (tape.Err() == api.OK) {
					t.Fatalf("%x, cut at %d: of %v: %v, %v", all, cut, x, got, stateOf(tape))
				}
			}
			if err := tape.End(); (err == api.OK) != (cut == len(all)) {
				t.Fatalf("%x, cut at %d: End = %d", all, cut, err)
			}
		}
	}
}

// P4.4: what is taken of any bytes is put as just those bytes; what tears leaves the bytes with which it began.
func TestThere(t *testing.T) {
	r := rand.New(rand.NewSource(45))
	taken := 0
	for range 20000 {
		all := make([]byte, r.Intn(40))
		for i := range all {
			all[i] = byte(r.Intn(256) >> r.Intn(9)) // small ones, too, so that some texts and rows are there
		}
		tape := bytes.NewTape(all)
		var again []byte
		for tape.Err() == api.OK {
			x := randomStep(r)
			got := x.take(tape)
			if tape.Err() == api.OK {
				again = got.put(again)
				taken++
			} else if x.kind != aRow && tape.Left() != len(all)-len(again) {
				t.Fatalf("of %x behind %x: %d bytes are left", all, again, tape.Left())
			}
			if !slices.Equal(again, all[:len(again)]) {
				t.Fatalf("of %x is put %x", all, again)
			}
			if tape.Err() == api.OK && tape.Left() != len(all)-len(again) {
				t.Fatalf("of %x behind %x: %d bytes are left", all, again, tape.Left())
			}
		}
	}
	if taken < 10000 {
		t.Errorf("only %d things were taken", taken)
	}
}
