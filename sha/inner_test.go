package sha

import (
	"bytes"
	"encoding/binary"
	"math"
	"math/big"
	"testing"
)

// primes answers the first n.
func primes(n int) []int64 {
	var out []int64
	for p := int64(2); len(out) < n; p++ {
		if big.NewInt(p).ProbablyPrime(0) {
			out = append(out, p)
		}
	}
	return out
}

// behindThePoint answers the first 32 bits behind the point of the root of p of that degree.
func behindThePoint(p int64, degree uint) uint32 {
	target := new(big.Int).Lsh(big.NewInt(p), 32*degree)
	root := new(big.Int)
	for bit := 40; bit >= 0; bit-- {
		root.SetBit(root, bit, 1)
		if new(big.Int).Exp(root, big.NewInt(int64(degree)), nil).Cmp(target) > 0 {
			root.SetBit(root, bit, 0)
		}
	}
	return uint32(root.Uint64())
}

// P1.1: the roots are those of the chapter.
func TestRoots(t *testing.T) {
	for i, p := range primes(len(roots)) {
		if want := behindThePoint(p, 3); roots[i] != want {
			t.Errorf("k(%d) = %08x, not %08x", i, roots[i], want)
		}
	}
	words := firstWords()
	for i, p := range primes(len(words)) {
		if want := behindThePoint(p, 2); words[i] != want {
			t.Errorf("h(%d) = %08x, not %08x", i, words[i], want)
		}
	}
}

// P1.1: also of so many bytes that how many bits they have takes more than four bytes.
func TestPadding(t *testing.T) {
	for _, first := range []int{0, 1 << 20, 1 << 29, 1<<29 + 1<<20, math.MaxInt32 - 200} {
		for count := first; count < first+200; count++ {
			got := padding(count)
			if len(got) < 9 || len(got) > 72 || (count+len(got))%64 != 0 {
				t.Fatalf("of %d: %d bytes", count, len(got))
			}
			want := make([]byte, len(got)-8)
			want[0] = 128
			want = binary.BigEndian.AppendUint64(want, 8*uint64(count))
			if !bytes.Equal(got, want) {
				t.Errorf("of %d: %x, not %x", count, got, want)
			}
		}
	}
}
