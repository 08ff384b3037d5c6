package b64

// letters are the 64 letters, each at the place of its number.
const letters = "ABCDEFGHIJKLMNOPQRSTUVWXYZabcdefghijklmnopqrstuvwxyz0123456789-_"

const (
	byteBits   = 8
	letterBits = 6
)

// bits are those that were put in and not yet taken: so many, as a number.
type bits struct {
	number, count int
}

// put puts the bits of a value behind the others.
func (l *bits) put(value, size int) {
	l.number = l.number<<size | value
	l.count += size
}

// take takes the first bits.
func (l *bits) take(size int) int {
	l.count -= size
	value := l.number >> l.count
	l.number -= value << l.count
	return value
}
