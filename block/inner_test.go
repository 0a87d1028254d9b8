package block

import (
	"bytes"
	"math/rand"
	"testing"

	"caravan/api"
)

// kept tells that of each digest there is a list, which is in order, has a place at least, and one of each file at most.
func kept(t *testing.T, f *Finder) {
	t.Helper()
	for h, l := range f.places {
		if len(l) == 0 {
			t.Fatalf("%x: an empty list", h)
		}
		for i, p := range l {
			if i > 0 && l[i-1].Name >= p.Name {
				t.Fatalf("%x: %v", h, l)
			}
			if !Verify(Part(f.files[p.Name], p.Block), h) {
				t.Fatalf("%x: not at %v", h, p)
			}
		}
	}
}

// P5.3: what goes is deleted: a finder that has no files any more keeps nothing of those that it had.
func TestDeleted(t *testing.T) {
	r := rand.New(rand.NewSource(1))
	names := []string{"a", "b", "c", "d", "e", "f"}
	for range 50 {
		f := NewFinder()
		for range 30 {
			data := []byte{}
			for range r.Intn(40) {
				data = append(data, bytes.Repeat([]byte{byte(r.Intn(5))}, 16)...)
			}
			if err := f.Add(names[r.Intn(len(names))], data); err != api.OK {
				t.Errorf("Add = %d", err)
			}
			kept(t, f)
		}
		for _, i := range r.Perm(len(names)) {
			f.Forget(names[i])
			kept(t, f)
		}
		if len(f.files) != 0 || len(f.places) != 0 || f.Len() != 0 {
			t.Errorf("%d files and %d digests are left", len(f.files), len(f.places))
		}
	}
}
