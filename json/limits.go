package json

import "brevet/api"

const (
	// greatest is the greatest integer; -greatest is the least.
	greatest = 1_000_000_000_000_000

	firstPlain = 32  // the bytes below are written by digits
	lastByte   = 126 // none of a text is above
)

// level is how many lists and maps stand around a place.
type level struct {
	around int
}

// deeper goes into one more, if there may be one.
func (l *level) deeper() bool {
	if l.around == api.MaxDeep {
		return false
	}
	l.around++
	return true
}

// higher goes out of the last one.
func (l *level) higher() {
	l.around--
}
