package journal

import (
	"bytes"
	"testing"

	"caravan/api"
)

func aDir(p string) api.Record {
	return api.Record{Path: p, Kind: api.KDir, Time: 9, By: 3, Vector: api.Vector{2: 1}, Seq: 2}
}

// behind answers a writer to whose log so many entries were added already, as no test can add that many.
func behind(id uint64, count int) *Writer {
	w := New(id)
	w.next = count
	return w
}

// P14.2: the last number is 2^32 - 1; a record that may not be has its own error also behind that.
func TestLastNumber(t *testing.T) {
	w := behind(7, 1<<32-2)
	for _, number := range []string{"\xfe\x01\xfe\x01\xfe\x01\xfe\x00", "\xfe\x01\xfe\x01\xfe\x01\xfe\x01"} {
		want := w.Len() + 1
		b, err := w.Add(aDir("d"))
		if err != api.OK || !bytes.HasPrefix(b, []byte("\xff"+number+"\x00\x01d")) || w.Len() != want {
			t.Errorf("Add = %x, %d; Len = %d, not %d", b, err, w.Len(), want)
		}
	}
	for range 3 {
		if b, err := w.Add(aDir("d")); len(b) != 0 || err != api.ErrLong || w.Len() != 1<<32 {
			t.Errorf("Add behind the last one = %x, %d; Len = %d", b, err, w.Len())
		}
		if b, err := w.Add(aDir("a//b")); len(b) != 0 || err != api.ErrPath || w.Len() != 1<<32 {
			t.Errorf("Add of no record behind the last one = %x, %d; Len = %d", b, err, w.Len())
		}
	}
	if w.ID() != 7 || !bytes.Equal(w.Head(), New(7).Head()) {
		t.Errorf("ID = %d, Head = %x", w.ID(), w.Head())
	}
}

// P14.4: an entry is read at its own number alone, whichever of the number's bytes are others.
func TestNumbersRead(t *testing.T) {
	numbers := []int{0, 1, 253, 254, 255, 256, 257, 0xfdff, 0xfefe, 0xfeff, 0xffff, 1 << 16, 1<<16 + 1, 0xfefeff, 1 << 24, 1<<24 + 254, 1<<31 - 1, 1 << 31, 1<<32 - 2, 1<<32 - 1}
	for _, of := range numbers {
		b, err := behind(7, of).Add(aDir("d"))
		if err != api.OK {
			t.Fatalf("Add of the number %d = %d", of, err)
		}
		for _, at := range append(numbers, 1<<32, 1<<32+of) {
			if r, ok := behind(7, at).entryOf(b); ok != (of == at) || (r.Path == "d") != ok {
				t.Errorf("the entry %d at %d: %t", of, at, ok)
			}
		}
		if _, ok := behind(8, of).entryOf(b); ok {
			t.Errorf("the entry %d is read in another log", of)
		}
	}
}

// P14.4: what is gone through ends where no byte 255 stands next, and when it is left.
func TestPieces(t *testing.T) {
	for _, x := range []struct {
		b    string
		want []string
	}{
		{"", nil},
		{"a", nil},
		{"a\xffb", nil},
		{"\xfe\xffb", nil},
		{"\xff", []string{"\xff"}},
		{"\xffab", []string{"\xffab"}},
		{"\xff\xff", []string{"\xff", "\xff"}},
		{"\xffa\xff\xff\xfe\xffb", []string{"\xffa", "\xff", "\xff\xfe", "\xffb"}},
	} {
		for most := range len(x.want) + 2 {
			l := pieces([]byte(x.b))
			for range 2 { // as what is gone through again is the same
				got, want := []string(nil), x.want[:min(most+1, len(x.want))]
				for piece := range l {
					got = append(got, string(piece))
					if len(got) > most {
						break
					}
				}
				if len(got) != len(want) {
					t.Fatalf("of %q: %q, not %q", x.b, got, want)
				}
				for i := range got {
					if got[i] != want[i] {
						t.Errorf("of %q: %q, not %q", x.b, got, want)
					}
				}
			}
		}
	}
}
