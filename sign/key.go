package sign

import (
	"slices"

	"brevet/curve"
	"brevet/scalar"
	"brevet/sha"
)

// size is how many bytes a seed has, and a public key, and each half of a digest and of a signature.
const size = 32

// key is what a seed stands for.
type key struct {
	secret, prefix []byte
}

func keyOf(seed []byte) key {
	secret, prefix := halves(sha.Sum512(seed))
	secret[0] &^= 0x07
	secret[size-1] = secret[size-1]&^0x80 | 0x40
	return key{secret, prefix}
}

// halves cuts 64 bytes so that nothing that is put behind the first half can run into the second.
func halves(b []byte) (first, second []byte) {
	return b[:size:size], b[size : 2*size : 2*size]
}

// number is what is left of the digest of all parts, one behind the other.
func number(parts ...[]byte) []byte {
	return scalar.Reduce(sha.Sum512(slices.Concat(parts...)))
}

// bases are the bytes of as many bases as n says.
func bases(n []byte) []byte {
	return curve.Base().Mul(n).Bytes()
}
