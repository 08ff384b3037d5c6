// Package sha is layer 1: see shared/doc/01-sha.md.
package sha

import "bytes"

// Sum256 is a digest of 32 bytes.
func Sum256(data []byte) []byte {
	return digest[uint32](data, shape{
		width: 32, steps: 64,
		big0: [3]uint{2, 13, 22}, big1: [3]uint{6, 11, 25},
		small0: [3]uint{7, 18, 3}, small1: [3]uint{17, 19, 10},
	})
}

// Sum512 is a digest of 64 bytes.
func Sum512(data []byte) []byte {
	return digest[uint64](data, shape{
		width: 64, steps: 80,
		big0: [3]uint{28, 34, 39}, big1: [3]uint{14, 18, 41},
		small0: [3]uint{1, 8, 7}, small1: [3]uint{19, 61, 6},
	})
}

// Equal tells whether two are the same bytes.
func Equal(a, b []byte) bool {
	return bytes.Equal(a, b)
}
