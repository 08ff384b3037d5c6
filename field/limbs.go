package field

import "math/bits"

const (
	limbCount = 5
	limbBits  = 51
	limbMask  = 1<<limbBits - 1

	// fold is what 2^255, the first number that the limbs' bits do not hold, is modulo p.
	fold = 19

	// size is how many bytes an element has.
	size = 32

	// maxExp is how many bytes of an exponent count.
	maxExp = 64
)

func ofWord(n uint64) Elem {
	return Elem{[limbCount]uint64{n & limbMask, n >> limbBits}}
}

// ofBytes leaves out the highest bit, which no element's bytes have.
func ofBytes(b []byte) Elem {
	var e Elem
	for i, c := range b {
		at, shift := 8*i/limbBits, 8*i%limbBits
		e.limbs[at] |= uint64(c) << shift & limbMask
		if at+1 < limbCount {
			e.limbs[at+1] |= uint64(c) >> (limbBits - shift)
		}
	}
	return e
}

// carried is the element of these limbs, whatever words they are, with limbs below 2^52: a carry is below 2^13, and 19 times that below 2^18.
func carried(l0, l1, l2, l3, l4 uint64) Elem {
	return Elem{[limbCount]uint64{
		l0&limbMask + fold*(l4>>limbBits),
		l1&limbMask + l0>>limbBits,
		l2&limbMask + l1>>limbBits,
		l3&limbMask + l2>>limbBits,
		l4&limbMask + l3>>limbBits,
	}}
}

// least is the same number below p, with limbs below 2^51: the one form that is as small as can be.
func (a Elem) least() Elem {
	// Of limbs below 2^52 the carries are at most 1, so the number is below 2 p, and p is in it once at most.
	small := carried(a.limbs[0], a.limbs[1], a.limbs[2], a.limbs[3], a.limbs[4])
	// It is p or more just if 19 more make it 2^255 or more.
	over := uint64(fold)
	for _, limb := range small.limbs {
		over = (limb + over) >> limbBits
	}
	// To take p away is to add 19 and to leave out 2^255, the last carry.
	carry := fold * over
	for i, limb := range small.limbs {
		small.limbs[i] = (limb + carry) & limbMask
		carry = (limb + carry) >> limbBits
	}
	return small
}

// wide is a sum of products of limbs. Each of at most five is below 19 2^104, so their sum is below 2^111.
type wide struct {
	high, low uint64
}

func (w wide) plus(x, y uint64) wide {
	high, low := bits.Mul64(x, y)
	low, carry := bits.Add64(low, w.low, 0)
	high, _ = bits.Add64(high, w.high, carry)
	return wide{high, low}
}

// rest is what of the sum is left in its limb.
func (w wide) rest() uint64 {
	return w.low & limbMask
}

// carry is what of the sum goes to the next limb: below 2^60, so it fits a word.
func (w wide) carry() uint64 {
	return w.high<<(64-limbBits) | w.low>>limbBits
}
