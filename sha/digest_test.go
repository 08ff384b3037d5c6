package sha

import (
	"bytes"
	"math/big"
	"testing"
)

func firstPrimes(n int) []int64 {
	var primes []int64
next:
	for c := int64(2); len(primes) < n; c++ {
		for _, p := range primes {
			if c%p == 0 {
				continue next
			}
		}
		primes = append(primes, c)
	}
	return primes
}

// isRoot tells whether x is the first 64 bits behind the point of a root of p: with one of the numbers that may stand ahead of the point it is not above the root, and one more is.
func isRoot(x uint64, p, by int64) bool {
	goal := new(big.Int).Lsh(big.NewInt(p), uint(64*by))
	above := func(n *big.Int) bool {
		return new(big.Int).Exp(n, big.NewInt(by), nil).Cmp(goal) > 0
	}
	for ahead := range p {
		n := new(big.Int).Lsh(big.NewInt(ahead), 64)
		n.Add(n, new(big.Int).SetUint64(x))
		if !above(n) && above(new(big.Int).Add(n, big.NewInt(1))) {
			return true
		}
	}
	return false
}

// P1.1: the tables are what the document says they are.
func TestRoots(t *testing.T) {
	for i, p := range firstPrimes(len(squareRoots)) {
		if !isRoot(squareRoots[i], p, 2) {
			t.Errorf("%x is not the square root of %d", squareRoots[i], p)
		}
	}
	for i, p := range firstPrimes(len(cubeRoots)) {
		if !isRoot(cubeRoots[i], p, 3) {
			t.Errorf("%x is not the cube root of %d", cubeRoots[i], p)
		}
	}
}

// P1.1: lengths of which no test makes a message.
func TestLongLengths(t *testing.T) {
	for _, c := range []struct {
		length int
		want   []byte
	}{
		{0, []byte{0, 0, 0, 0, 0, 0, 0, 0}},
		{1 << 13, []byte{0, 0, 0, 0, 0, 1, 0, 0}},
		{1<<29 - 64, []byte{0, 0, 0, 0, 0xff, 0xff, 0xfe, 0}},
		{1 << 29, []byte{0, 0, 0, 1, 0, 0, 0, 0}},
		{1 << 31, []byte{0, 0, 0, 4, 0, 0, 0, 0}},
		{0x0123456789abcd00, []byte{0x09, 0x1a, 0x2b, 0x3c, 0x4d, 0x5e, 0x68, 0}},
	} {
		for _, width := range []uint{32, 64} {
			want := make([]byte, 2*width)
			want[0] = 128
			copy(want[len(want)-8:], c.want)
			if got := lastBlocks(nil, c.length, shape{width: width}); !bytes.Equal(got, want) {
				t.Errorf("of %d bytes the last block of width %d is %x, want %x", c.length, width, got, want)
			}
		}
	}
}
