// Package sha is layer 1: see shared/doc/01-sha.md.
package sha

import (
	"math/bits"

	"caravan/api"
)

// roots are k(0) to k(63): the first 32 bits behind the point of the cube roots of the first 64 primes.
var roots = [64]uint32{
	0x428a2f98, 0x71374491, 0xb5c0fbcf, 0xe9b5dba5, 0x3956c25b, 0x59f111f1, 0x923f82a4, 0xab1c5ed5,
	0xd807aa98, 0x12835b01, 0x243185be, 0x550c7dc3, 0x72be5d74, 0x80deb1fe, 0x9bdc06a7, 0xc19bf174,
	0xe49b69c1, 0xefbe4786, 0x0fc19dc6, 0x240ca1cc, 0x2de92c6f, 0x4a7484aa, 0x5cb0a9dc, 0x76f988da,
	0x983e5152, 0xa831c66d, 0xb00327c8, 0xbf597fc7, 0xc6e00bf3, 0xd5a79147, 0x06ca6351, 0x14292967,
	0x27b70a85, 0x2e1b2138, 0x4d2c6dfc, 0x53380d13, 0x650a7354, 0x766a0abb, 0x81c2c92e, 0x92722c85,
	0xa2bfe8a1, 0xa81a664b, 0xc24b8b70, 0xc76c51a3, 0xd192e819, 0xd6990624, 0xf40e3585, 0x106aa070,
	0x19a4c116, 0x1e376c08, 0x2748774c, 0x34b0bcb5, 0x391c0cb3, 0x4ed8aa4a, 0x5b9cca4f, 0x682e6ff3,
	0x748f82ee, 0x78a5636f, 0x84c87814, 0x8cc70208, 0x90befffa, 0xa4506ceb, 0xbef9a3f7, 0xc67178f2,
}

const digits = "0123456789abcdef"

// State: P1.3.
type State struct {
	made  bool // tells what New made from a zero State, which would give wrong digests
	words [8]uint32
	part  [64]byte // the last count % 64 bytes, that do not yet fill it, are at its beginning
	count int
}

// Sum: P1.1.
func Sum(b []byte) api.Hash {
	s := New()
	s.take(b)
	return s.Sum()
}

// Text: P1.2.
func Text(h api.Hash) string {
	out := make([]byte, 0, 2*len(h))
	for _, x := range h {
		out = append(out, digits[x>>4], digits[x&15])
	}
	return string(out)
}

// Of: P1.2.
func Of(s string) (api.Hash, bool) {
	h := api.Hash{}
	if len(s) != 2*len(h) {
		return api.Hash{}, false
	}
	for i := range h {
		high, ok := digit(s[2*i])
		if !ok {
			return api.Hash{}, false
		}
		low, ok := digit(s[2*i+1])
		if !ok {
			return api.Hash{}, false
		}
		h[i] = high<<4 | low
	}
	return h, true
}

// New: P1.3.
func New() *State { return &State{made: true, words: firstWords()} }

// Write: P1.3.
func (s *State) Write(b []byte) api.Errno {
	if s == nil || !s.made {
		return api.ErrNil
	}
	s.take(b)
	return api.OK
}

// Sum: P1.3.
func (s *State) Sum() api.Hash {
	if s == nil || !s.made {
		return api.Hash{}
	}
	padded := *s // a copy, so that s goes on as if it had not been asked
	padded.take(padding(s.count))
	h := api.Hash{}
	for i, x := range padded.words {
		h[4*i] = byte(x >> 24)
		h[4*i+1] = byte(x >> 16)
		h[4*i+2] = byte(x >> 8)
		h[4*i+3] = byte(x)
	}
	return h
}

// Len: P1.3.
func (s *State) Len() int {
	if s == nil || !s.made {
		return 0
	}
	return s.count
}

func (s *State) take(b []byte) {
	for len(b) > 0 {
		n := copy(s.part[s.count%len(s.part):], b)
		b = b[n:]
		s.count += n
		if s.count%len(s.part) == 0 {
			s.words = fold(s.words, s.part)
		}
	}
}

// firstWords are h(0) to h(7): the first 32 bits behind the point of the square roots of the first eight primes.
func firstWords() [8]uint32 {
	return [8]uint32{
		0x6a09e667, 0xbb67ae85, 0x3c6ef372, 0xa54ff53a, 0x510e527f, 0x9b05688c, 0x1f83d9ab, 0x5be0cd19,
	}
}

// padding is what the padded bytes of count bytes have behind these.
func padding(count int) []byte {
	noughts := (119 - count%64) % 64 // 119 is 128, less the byte 128 and the eight of the length
	out := make([]byte, 1+noughts, 1+noughts+8)
	out[0] = 128
	for shift := 56; shift >= 0; shift -= 8 {
		out = append(out, byte(uint64(count)*8>>shift))
	}
	return out
}

func fold(words [8]uint32, part [64]byte) [8]uint32 {
	w := firstSixteen(part)
	a, b, c, d := words[0], words[1], words[2], words[3]
	e, f, g, h := words[4], words[5], words[6], words[7]
	for t := range 64 {
		if t >= 16 {
			w[t%16] = nextWord(w, t)
		}
		x := h + (right(e, 6) ^ right(e, 11) ^ right(e, 25)) + (e&f ^ ^e&g) + roots[t] + w[t%16]
		y := (right(a, 2) ^ right(a, 13) ^ right(a, 22)) + (a&b ^ a&c ^ b&c)
		h, g, f, e, d, c, b, a = g, f, e, d+x, c, b, a, x+y
	}
	return [8]uint32{
		words[0] + a, words[1] + b, words[2] + c, words[3] + d,
		words[4] + e, words[5] + f, words[6] + g, words[7] + h,
	}
}

func firstSixteen(part [64]byte) [16]uint32 {
	w := [16]uint32{}
	for t := range w {
		w[t] = uint32(part[4*t])<<24 | uint32(part[4*t+1])<<16 | uint32(part[4*t+2])<<8 | uint32(part[4*t+3])
	}
	return w
}

// nextWord is w(t), for t from 16 on. No more than the sixteen words ahead of it are ever asked for, so w(t) stands at t % 16, in the place of w(t - 16).
func nextWord(w [16]uint32, t int) uint32 {
	x, y := w[(t+1)%16], w[(t+14)%16] // w(t - 15) and w(t - 2)
	s0 := right(x, 7) ^ right(x, 18) ^ x>>3
	s1 := right(y, 17) ^ right(y, 19) ^ y>>10
	return w[t%16] + s0 + w[(t+9)%16] + s1
}

func right(x uint32, n int) uint32 { return bits.RotateLeft32(x, -n) }

func digit(c byte) (byte, bool) {
	switch {
	case '0' <= c && c <= '9':
		return c - '0', true
	case 'a' <= c && c <= 'f':
		return c - 'a' + 10, true
	}
	return 0, false
}
