package sha_test

import (
	"bytes"
	"crypto/sha256"
	"slices"
	"strings"
	"testing"

	"caravan/api"
	"caravan/sha"
)

// noise answers n bytes that look like no pattern, always the same ones.
func noise(n int) []byte {
	out := make([]byte, n)
	x := uint32(2463534242)
	for i := range out {
		x ^= x << 13
		x ^= x >> 17
		x ^= x << 5
		out[i] = byte(x >> 11)
	}
	return out
}

var examples = []struct{ bytes, text string }{
	{"", "e3b0c44298fc1c149afbf4c8996fb92427ae41e4649b934ca495991b7852b855"},
	{"abc", "ba7816bf8f01cfea414140de5dae2223b00361a396177a9cb410ff61f20015ad"},
	{"abcdbcdecdefdefgefghfghighijhijkijkljklmklmnlmnomnopnopq", "248d6a61d20638b8e5c026930c3e6039a33ce45964ff2167f6ecedd419db06c1"},
	{strings.Repeat("a", 1000000), "cdc76e5c9914fb9281a1c7e284d73e67f1809a48a497200e046d39ccc7112cd0"},
}

// P1.1, and Text of P1.2.
func TestExamples(t *testing.T) {
	for i, x := range examples {
		if got := sha.Text(sha.Sum([]byte(x.bytes))); got != x.text {
			t.Errorf("%d: %s", i, got)
		}
		if h, ok := sha.Of(x.text); !ok || h != sha.Sum([]byte(x.bytes)) {
			t.Errorf("%d: Of = %x, %t", i, h, ok)
		}
	}
	if sha.Text(sha.Sum(nil)) != examples[0].text {
		t.Error("Sum of nil is not that of no bytes")
	}
}

// P1.1: every length around the edges at which the padding begins a further 64 bytes.
func TestSumOfEachLength(t *testing.T) {
	all := noise(4096)
	for n := range 400 {
		if got, want := sha.Sum(all[:n]), api.Hash(sha256.Sum256(all[:n])); got != want {
			t.Errorf("%d bytes: %x, not %x", n, got, want)
		}
		same := bytes.Repeat([]byte{byte(n)}, n)
		if got, want := sha.Sum(same), api.Hash(sha256.Sum256(same)); got != want {
			t.Errorf("%d like bytes: %x, not %x", n, got, want)
		}
	}
	if sha.Sum(all) != api.Hash(sha256.Sum256(all)) {
		t.Error("4096 bytes")
	}
}

// P1.2: the higher four bits stand first, in small letters.
func TestText(t *testing.T) {
	h := api.Hash{0: 0x01, 1: 0xab, 2: 0xf0, 31: 0x9e}
	want := "01abf0" + strings.Repeat("0", 56) + "9e"
	if got := sha.Text(h); got != want {
		t.Errorf("%s, not %s", got, want)
	}
	if got, ok := sha.Of(want); !ok || got != h {
		t.Errorf("Of = %x, %t", got, ok)
	}
	if got := sha.Text(api.Hash{}); got != strings.Repeat("0", 64) {
		t.Errorf("of the zero digest: %s", got)
	}
	if got, ok := sha.Of(strings.Repeat("0", 64)); !ok || got != (api.Hash{}) {
		t.Errorf("Of of noughts = %x, %t", got, ok)
	}
}

// P1.2: what is no digest's text.
func TestOfWrong(t *testing.T) {
	good := examples[1].text
	for _, s := range []string{
		"", "b", good[:62], good[:63], good + "0", good + "00", good + good,
		" " + good, good + " ", " " + good[1:], good[:63] + "\n", "0x" + good[2:],
		strings.ToUpper(good), strings.Repeat("F", 64), strings.Repeat("é", 32), strings.Repeat("\x00", 64),
	} {
		if h, ok := sha.Of(s); ok || h != (api.Hash{}) {
			t.Errorf("Of(%q) = %x, %t", s, h, ok)
		}
	}
}

// P1.2: every byte at every place is a digit, or makes the text none's.
func TestOfEachByte(t *testing.T) {
	for place := range 64 {
		for c := range 256 {
			s := []byte(examples[1].text)
			s[place] = byte(c)
			h, ok := sha.Of(string(s))
			if want := strings.IndexByte("0123456789abcdef", byte(c)) >= 0; ok != want {
				t.Fatalf("byte %d at %d: %t", c, place, ok)
			}
			if ok && sha.Text(h) != string(s) {
				t.Fatalf("byte %d at %d: %x", c, place, h)
			}
			if !ok && h != (api.Hash{}) {
				t.Fatalf("byte %d at %d: %x beside false", c, place, h)
			}
		}
	}
}

// P1.3.
func TestState(t *testing.T) {
	s := sha.New()
	if s == nil || s.Len() != 0 || s.Sum() != sha.Sum(nil) {
		t.Fatal("New has bytes")
	}
	if e := s.Write(nil); e != api.OK || s.Len() != 0 || s.Sum() != sha.Sum(nil) {
		t.Errorf("Write of none = %d, Len %d", e, s.Len())
	}
	if e := s.Write([]byte("ab")); e != api.OK || s.Len() != 2 || s.Sum() != sha.Sum([]byte("ab")) {
		t.Errorf("Write of ab = %d, Len %d", e, s.Len())
	}
	if e := s.Write([]byte("c")); e != api.OK || s.Len() != 3 || s.Sum() != sha.Sum([]byte("abc")) {
		t.Errorf("Write of c = %d, Len %d", e, s.Len())
	}
	if e := s.Write([]byte{}); e != api.OK || s.Len() != 3 || s.Sum() != sha.Sum([]byte("abc")) {
		t.Errorf("Write of none behind these = %d, Len %d", e, s.Len())
	}
}

// P1.3: of nil, and of what New did not make.
func TestStateOfNone(t *testing.T) {
	for name, s := range map[string]*sha.State{"nil": nil, "zero": {}, "new": new(sha.State)} {
		for _, b := range [][]byte{nil, {}, []byte("abc"), noise(200)} {
			if e := s.Write(b); e != api.ErrNil {
				t.Errorf("%s: Write of %d bytes = %d", name, len(b), e)
			}
			if h := s.Sum(); h != (api.Hash{}) {
				t.Errorf("%s: Sum = %x", name, h)
			}
			if n := s.Len(); n != 0 {
				t.Errorf("%s: Len = %d", name, n)
			}
		}
	}
}

// P1.3: no state knows of another one.
func TestTwoStates(t *testing.T) {
	a, b := sha.New(), sha.New()
	data := noise(300)
	for i := range data {
		a.Write(data[i : i+1])
		b.Write(data[len(data)-1-i : len(data)-i])
	}
	back := bytes.Clone(data)
	for i := range data {
		back[i] = data[len(data)-1-i]
	}
	if a.Sum() != sha.Sum(data) || b.Sum() != sha.Sum(back) || a.Sum() == b.Sum() {
		t.Error("states that share something")
	}
}

// P1.4: cut at any two places, and asked at each of them.
func TestParts(t *testing.T) {
	data := noise(150)
	whole := api.Hash(sha256.Sum256(data))
	for i := range len(data) + 1 {
		for j := i; j <= len(data); j++ {
			s, quiet := sha.New(), sha.New()
			at := 0
			for _, end := range []int{i, j, len(data)} {
				s.Write(data[at:end])
				quiet.Write(data[at:end])
				at = end
				if s.Sum() != api.Hash(sha256.Sum256(data[:end])) || s.Len() != end {
					t.Fatalf("cut at %d and %d: not those up to %d", i, j, end)
				}
			}
			if s.Sum() != whole || s.Sum() != whole || quiet.Sum() != whole {
				t.Fatalf("cut at %d and %d: not all", i, j)
			}
		}
	}
}

// P1.4: parts of one length each, many of them.
func TestLikeParts(t *testing.T) {
	data := noise(2000)
	for n := 1; n <= 200; n++ {
		s := sha.New()
		for part := range slices.Chunk(data, n) {
			s.Write(part)
		}
		if s.Sum() != api.Hash(sha256.Sum256(data)) || s.Len() != len(data) {
			t.Errorf("parts of %d", n)
		}
	}
}

// P1.5.
func TestBack(t *testing.T) {
	for i := range 300 {
		h := api.Hash(noise(32 + i)[i:])
		text := sha.Text(h)
		back, ok := sha.Of(text)
		if !ok || back != h || len(text) != 64 || sha.Text(back) != text {
			t.Errorf("%x: %s, %x, %t", h, text, back, ok)
		}
	}
}

// P1.6: what is handed in is not changed, not even what its capacity has behind it.
func TestNotChanged(t *testing.T) {
	for n := range 140 {
		data := noise(300)
		handed := bytes.Clone(data)
		sha.Sum(handed[:n])
		s := sha.New()
		s.Write(handed[:n])
		s.Sum()
		s.Write(handed[n : n+70])
		s.Sum()
		if !bytes.Equal(handed, data) {
			t.Errorf("%d bytes: changed", n)
		}
	}
}

// P1.6: what is handed in is not kept, nor is what is answered.
func TestNotKept(t *testing.T) {
	for n := range 140 {
		data := noise(300)
		handed := bytes.Clone(data[:n])
		s := sha.New()
		s.Write(handed)
		for i := range handed {
			handed[i] ^= 255
		}
		h := s.Sum()
		if h != sha.Sum(data[:n]) {
			t.Errorf("%d bytes: kept", n)
		}
		for i := range h {
			h[i] ^= 255
		}
		s.Write(data[n:])
		if s.Sum() != sha.Sum(data) {
			t.Errorf("%d bytes: an answer is kept", n)
		}
	}
}
