package scalar

const (
	// size is how many bytes what is left has, and how many count of what is multiplied or added.
	size = 32

	// wideSize is how many bytes count of what is reduced.
	wideSize = 64

	// Nine digits of 28 bits end just at 2^252, so the digits behind them tell how often 2^252, and nearly L, is in a number; and products of digits can be summed up in a word.
	digitBits = 28
	digitMask = 1<<digitBits - 1
	digits    = 9

	// narrowDigits hold 32 bytes, wideDigits 64.
	narrowDigits = digits + 1
	wideDigits   = 2*narrowDigits - 1
)

// excess is by how much L is more than 2^252, as digits.
var excess = [5]int64{0xcf5d3ed, 0x12631a5, 0x79cd658, 0xf9dea2f, 0x14de}

// wide is a number: the sum of wide[i] 2^(28 i). Each digit is from 0 to below 2^28 where nothing else is said.
type wide [wideDigits]int64

// read puts the first most bytes of b into a number that is 0.
func (n *wide) read(b []byte, most int) {
	for i := range min(len(b), most) {
		n[8*i/digitBits] += int64(b[i]) << (8 * i % digitBits)
	}
	n.settle(wideDigits - 1)
}

// bytes are those of a number below 2^256.
func (n *wide) bytes() []byte {
	b := make([]byte, size)
	for i := range size {
		at, shift := 8*i/digitBits, 8*i%digitBits
		b[i] = byte(n[at]>>shift | n[at+1]<<(digitBits-shift))
	}
	return b
}

// addProduct adds the product of two numbers of 32 bytes to a third. A digit comes to less than 11 2^56 before it is settled, and all of it to less than 2^512.
func (n *wide) addProduct(x, y *wide) {
	for i := range narrowDigits {
		for j := range narrowDigits {
			n[i+j] += x[i] * y[j]
		}
	}
	n.settle(wideDigits - 1)
}

// settle carries what is too much or too little in the digits ahead of the one at top to that one, which may be of any size then, and below 0.
func (n *wide) settle(top int) {
	for i := range top {
		n[i+1] += n[i] >> digitBits
		n[i] &= digitMask
	}
}

// reduce takes L away as often as it is in the number.
func (n *wide) reduce() {
	// The digit at the top is from -1 to 2^28 each time: what is taken away from the nine digits below it is less than 2^153, and what is added to them less than 2^125.
	for top := wideDigits - 1; top >= digits; top-- {
		times := n[top]
		n[top] = 0
		n.takeExcess(top, times)
	}
	// Now it is below L, for at most the excess was added to less than 2^252; and above -2^153.
	if n[digits-1] < 0 {
		n[digits-1] += 1 << digitBits
		n.takeExcess(digits, -1)
	}
}

// takeExcess takes the excess away so many times from the nine digits below top, of which the highest may be of any size then.
func (n *wide) takeExcess(top int, times int64) {
	for i := range len(excess) {
		n[top-digits+i] -= times * excess[i]
	}
	n.settle(top - 1)
}
