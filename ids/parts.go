package ids

import (
	"iter"
	"strings"

	"brevet/api"
)

const (
	scheme = "spiffe://"
	agents = "/agent/" // ahead of an agent's segment

	small  = "abcdefghijklmnopqrstuvwxyz"
	great  = "ABCDEFGHIJKLMNOPQRSTUVWXYZ"
	digits = "0123456789"
	inner  = ".-" // not first and not last in a domain

	longestKind  = 8
	firstOfValue = 33
	lastOfValue  = 126
)

// filled tells whether a text is one to most bytes, each of which may stand.
func filled(s string, most int, may func(b byte) bool) bool {
	if s == "" || len(s) > most {
		return false
	}
	for i := range len(s) {
		if !may(s[i]) {
			return false
		}
	}
	return true
}

// among lets the bytes of a text stand.
func among(bytes string) func(b byte) bool {
	return func(b byte) bool { return strings.IndexByte(bytes, b) >= 0 }
}

// between lets the bytes from first to last stand.
func between(first, last byte) func(b byte) bool {
	return func(b byte) bool { return first <= b && b <= last }
}

// segments tells one by one what stands behind each `/`, up to the next one.
func segments(path string) iter.Seq[string] {
	return func(tell func(segment string) bool) {
		_, rest, more := strings.Cut(path, "/")
		for more {
			var segment string
			segment, rest, more = strings.Cut(rest, "/")
			if !tell(segment) {
				return
			}
		}
	}
}

func isSegment(s string) bool {
	// How long one may be is told by its path, so that bound never counts here.
	return filled(s, api.MaxPath, among(small+great+digits+"._-")) && s != "." && s != ".."
}
