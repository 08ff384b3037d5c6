package jws

import (
	"slices"
	"strings"

	"brevet/api"
	"brevet/ids"
)

const (
	kidBytes = "abcdefghijklmnopqrstuvwxyz0123456789"

	firstOfAud = 33
	lastOfAud  = 126
	notOfAud   = `"\` // JSON would write these two otherwise
)

// mayBe tells whether claims may be.
func mayBe(c api.Claims) bool {
	_, _, err := ids.Parse(c.Sub)
	return err == api.OK && areAudiences(c.Aud) && isTime(c.Exp) && isTime(c.Iat)
}

func areAudiences(l []string) bool {
	if len(l) == 0 || len(l) > api.MaxAuds {
		return false
	}
	may := between(firstOfAud, lastOfAud, notOfAud)
	for i, aud := range l {
		if !isName(aud, may) || slices.Contains(l[:i], aud) {
			return false
		}
	}
	return true
}

func isTime(n int) bool {
	return 0 <= n && n <= api.MaxTime
}

// isKid tells whether a text is a key's name.
func isKid(s string) bool {
	return isName(s, func(b byte) bool { return strings.IndexByte(kidBytes, b) >= 0 })
}

// isName tells whether a text is one to MaxName bytes, each of which may stand.
func isName(s string, may func(b byte) bool) bool {
	barred := func(b byte) bool { return !may(b) }
	return s != "" && len(s) <= api.MaxName && !slices.ContainsFunc([]byte(s), barred)
}

// between lets the bytes from first to last stand, but some.
func between(first, last byte, but string) func(b byte) bool {
	return func(b byte) bool { return first <= b && b <= last && strings.IndexByte(but, b) < 0 }
}
