package ids_test

import (
	"regexp"
	"slices"

	"brevet/api"
)

// The document's words, written once more as patterns.
var (
	domainWords   = regexp.MustCompile(`\A[a-z0-9](?:[a-z0-9.-]{0,14}[a-z0-9])?\z`)
	pathWords     = regexp.MustCompile(`\A(?:/[a-zA-Z0-9._-]+)+\z`)
	dotWords      = regexp.MustCompile(`/\.\.?(?:/|\z)`)
	agentWords    = regexp.MustCompile(`\A/agent/[^/]+\z`)
	selectorWords = regexp.MustCompile(`\A[a-z]{1,8}:[!-~]{1,16}\z`)
	idWords       = regexp.MustCompile(`\Aspiffe://([^/]*)(/(?s:.*))\z`)
)

func domainByWords(s string) bool {
	return domainWords.MatchString(s)
}

func pathByWords(s string) bool {
	return pathWords.MatchString(s) && !dotWords.MatchString(s) && len(s) <= 40
}

func agentByWords(s string) bool {
	return agentWords.MatchString(s) && pathByWords(s)
}

func selectorByWords(s string) bool {
	return selectorWords.MatchString(s)
}

func parseByWords(s string) (domain, path string, err api.Errno) {
	found := idWords.FindStringSubmatch(s)
	if found == nil || !domainByWords(found[1]) || !pathByWords(found[2]) {
		return "", "", api.ErrForm
	}
	return found[1], found[2], api.OK
}

// setByWords puts each selector ahead of the first one that is greater, byte by byte.
func setByWords(l []string) ([]string, api.Errno) {
	var set []string
	for _, s := range l {
		if !selectorByWords(s) {
			return nil, api.ErrForm
		}
		at := 0
		for at < len(set) && below(set[at], s) {
			at++
		}
		if at == len(set) || set[at] != s {
			set = slices.Insert(set, at, s)
		}
	}
	if len(set) > 4 {
		return nil, api.ErrLong
	}
	return set, api.OK
}

func below(a, b string) bool {
	for i := range min(len(a), len(b)) {
		if a[i] != b[i] {
			return a[i] < b[i]
		}
	}
	return len(a) < len(b)
}

func withinByWords(a, b []string) bool {
	all := true
	for _, one := range a {
		found := false
		for _, other := range b {
			found = found || one == other
		}
		all = all && found
	}
	return all
}
