package ids_test

import (
	"math/rand"
	"slices"
	"strings"
	"sync"
	"testing"

	"brevet/api"
	"brevet/ids"
)

const (
	small  = "abcdefghijklmnopqrstuvwxyz"
	great  = "ABCDEFGHIJKLMNOPQRSTUVWXYZ"
	digits = "0123456789"
)

func domain(t *testing.T, s string, want bool) {
	t.Helper()
	if got, words := ids.Domain(s), domainByWords(s); got != want || words != want {
		t.Fatalf("Domain of %q: %v, by the words %v, want %v", s, got, words, want)
	}
}

func path(t *testing.T, s string, want bool) {
	t.Helper()
	if got, words := ids.Path(s), pathByWords(s); got != want || words != want {
		t.Fatalf("Path of %q: %v, by the words %v, want %v", s, got, words, want)
	}
}

func agent(t *testing.T, s string, want bool) {
	t.Helper()
	if got, words := ids.Agent(s), agentByWords(s); got != want || words != want {
		t.Fatalf("Agent of %q: %v, by the words %v, want %v", s, got, words, want)
	}
	if want && !ids.Path(s) {
		t.Fatalf("%q is an agent's, and no path", s)
	}
}

func selector(t *testing.T, s string, want bool) {
	t.Helper()
	if got, words := ids.Selector(s), selectorByWords(s); got != want || words != want {
		t.Fatalf("Selector of %q: %v, by the words %v, want %v", s, got, words, want)
	}
}

func made(t *testing.T, domain, path, want string) {
	t.Helper()
	if got, err := ids.Make(domain, path); got != want || err != api.OK {
		t.Fatalf("Make of %q, %q: %q, %v, want %q", domain, path, got, err, want)
	}
}

func notMade(t *testing.T, domain, path string) {
	t.Helper()
	if got, err := ids.Make(domain, path); got != "" || err != api.ErrForm {
		t.Fatalf("Make of %q, %q: %q, %v, want no text, %v", domain, path, got, err, api.ErrForm)
	}
}

func parsed(t *testing.T, s, domain, path string) {
	t.Helper()
	if d, p, err := ids.Parse(s); d != domain || p != path || err != api.OK {
		t.Fatalf("Parse of %q: %q, %q, %v, want %q, %q", s, d, p, err, domain, path)
	}
	made(t, domain, path, s)
}

func notParsed(t *testing.T, s string) {
	t.Helper()
	if d, p, err := ids.Parse(s); d != "" || p != "" || err != api.ErrForm {
		t.Fatalf("Parse of %q: %q, %q, %v, want no texts, %v", s, d, p, err, api.ErrForm)
	}
}

func set(t *testing.T, l []string, want ...string) {
	t.Helper()
	if got, err := ids.Set(l); !slices.Equal(got, want) || err != api.OK {
		t.Fatalf("Set of %q: %q, %v, want %q", l, got, err, want)
	}
}

func noSet(t *testing.T, l []string, want api.Errno) {
	t.Helper()
	if got, err := ids.Set(l); len(got) != 0 || err != want {
		t.Fatalf("Set of %q: %q, %v, want no list, %v", l, got, err, want)
	}
}

func within(t *testing.T, a, b []string, want bool) {
	t.Helper()
	if got := ids.Within(a, b); got != want {
		t.Fatalf("Within of %q, %q: %v, want %v", a, b, got, want)
	}
}

func list(l ...string) []string { return l }

// texts are all texts of up to most bytes of those.
func texts(bytes string, most int) []string {
	all := list("")
	for first := 0; len(all[first]) < most; first++ {
		for i := range len(bytes) {
			all = append(all, all[first]+bytes[i:i+1])
		}
	}
	return all
}

// changed is a text of which some bytes, by chance, are others, gone, or there twice.
func changed(chance *rand.Rand, s, bytes string) string {
	b := []byte(s)
	for range chance.Intn(3) {
		at := chance.Intn(len(b) + 1)
		one := bytes[chance.Intn(len(bytes))]
		if chance.Intn(8) == 0 {
			one = byte(chance.Intn(256))
		}
		switch {
		case chance.Intn(3) == 0:
			b = slices.Insert(b, at, one)
		case at == len(b):
			b = b[:max(0, at-1)]
		case chance.Intn(2) == 0:
			b[at] = one
		default:
			b = slices.Delete(b, at, at+1)
		}
	}
	return string(b)
}

// P9.1, P9.2: the document's examples.
func TestExamples(t *testing.T) {
	parsed(t, "spiffe://a.org/db", "a.org", "/db")
	path(t, "/a/../b", false)
	set(t, list("uid:2", "uid:1", "uid:2"), "uid:1", "uid:2")
}

// P9.1
func TestDomain(t *testing.T) {
	for _, s := range []string{
		"a", "z", "0", "9", "ab", "a.org", "a-b", "a.b.c", "a-1.b", "0.0", "1-1", "a..b", "a--b", "a.-b", "a-.b", "a...b",
		"xn--a", "abcdefghijklmnop", "0123456789abcdef", "a.............-b", "a--------------b",
	} {
		domain(t, s, true)
	}
	for _, s := range []string{
		"", ".", "-", "..", "--", ".a", "-a", "a.", "a-", ".a.", "-a-", ".-", "a.b.", "..a", "a..", "A", "aB", "a_b", "a/b", "a b", " a", "a ", "a\n", "a:1",
		"a@b", "*", "spiffe://a", "ä", "aäb", "a\x00", "\x00", "abcdefghijklmnopq", "a..............-b", ".abcdefghijklmno", "abcdefghijklmno-",
	} {
		domain(t, s, false)
	}
}

// P9.1: 0 to 18 bytes, and many.
func TestDomainOfLengths(t *testing.T) {
	for n := range 19 {
		domain(t, strings.Repeat("a", n), 1 <= n && n <= 16)
		domain(t, strings.Repeat("7", n), 1 <= n && n <= 16)
	}
	domain(t, "a"+strings.Repeat(".", 14)+"b", true)
	domain(t, "a"+strings.Repeat(".", 15)+"b", false)
	domain(t, strings.Repeat("a", 16+256), false)
	domain(t, strings.Repeat("a", 1<<20), false)
}

// P9.1: each byte alone, between two letters, at the front and at the end.
func TestDomainOfEachByte(t *testing.T) {
	for b := range 256 {
		one := string([]byte{byte(b)})
		edge := strings.Contains(small+digits, one)
		domain(t, one, edge)
		domain(t, "a"+one+"b", edge || one == "." || one == "-")
		domain(t, one+"a", edge)
		domain(t, "a"+one, edge)
		domain(t, "abcdefghijklmn"+one+"p", edge || one == "." || one == "-")
	}
}

// P9.1: `.` and `-` at each place of each length, alone and twice in a row.
func TestDomainOfDots(t *testing.T) {
	for n := 1; n <= 16; n++ {
		for at := range n {
			for _, sign := range []string{".", "-", "..", "--", ".-", "-."} {
				s := strings.Repeat("a", at) + sign + strings.Repeat("a", n-at-1)
				domain(t, s, 0 < at && at < n-1 && len(s) <= 16)
			}
		}
	}
}

// P9.1
func TestPath(t *testing.T) {
	for _, s := range []string{
		"/a", "/A", "/0", "/_", "/-", "/a/b", "/db/web", "/a/B_c.d-e", "/...", "/....", "/.a", "/a.", "/..a", "/a..", "/.a.", "/a/.../b", "/.../a", "/a/...",
		"/.-", "/-.", "/._", "/.../...", "/a/a/a/a/a/a/a/a/a/a/a/a/a/a/a/a/a/a/a/a", "/agent/n1", "/agent", "/agent/a/b", "/.a/b./..c/d..",
	} {
		path(t, s, true)
	}
	for _, s := range []string{
		"", "/", "a", "a/b", "a/", "//", "///", "//a", "/a/", "/a//", "/a//b", "/a/b/", "a//b", "/.", "/..", "/./a", "/../a", "/a/.", "/a/..", "/a/./b", "/a/../b",
		"/./", "/../", "./a", "../a", ".", "..", "...", "/./.", "/a b", "/a\n", " /a", "/a ", "/ä", "/a\\b", "/a:b", "/a%2fb", "/a~", "/a?", "/a#", "\x00", "/\x00", "spiffe://a/b",
	} {
		path(t, s, false)
	}
}

// P9.1: all lengths up to 42 of one segment, and of as many as can be, and many.
func TestPathOfLengths(t *testing.T) {
	for n := range 43 {
		path(t, "/"+strings.Repeat("a", n), 2 <= n+1 && n+1 <= 40)
		path(t, strings.Repeat("/a", n), 1 <= n && 2*n <= 40)
		path(t, strings.Repeat("/a", n)+"b", 1 <= n && 2*n+1 <= 40)
		path(t, strings.Repeat("/..a", n), 1 <= n && 4*n <= 40)
	}
	path(t, "/"+strings.Repeat("a", 39+256), false)
	path(t, "/"+strings.Repeat("a", 1<<20), false)
	path(t, strings.Repeat("/", 1<<20), false)
	path(t, strings.Repeat("/", 40), false)
	path(t, "/"+strings.Repeat(".", 39), true)
}

// P9.1: each byte as a segment, in one, and as the last of as many as can be.
func TestPathOfEachByte(t *testing.T) {
	for b := range 256 {
		one := string([]byte{byte(b)})
		may := strings.Contains(small+great+digits+".-_", one)
		path(t, "/"+one, may && one != ".")
		path(t, "/a/"+one, may && one != ".")
		path(t, "/"+one+"/a", may && one != ".")
		path(t, "/a"+one, may)
		path(t, "/"+one+"a", may)
		path(t, "/a"+one+"b", may || one == "/")
		path(t, "/.."+one, may)
		path(t, strings.Repeat("/a", 19)+"/"+one, may && one != ".")
		path(t, one+"/a", false)
	}
}

// P9.1: segments that may be one and that may not at the front, in the middle and at the end.
func TestPathOfSegments(t *testing.T) {
	for segment, may := range map[string]bool{"": false, ".": false, "..": false, "...": true, "....": true, ".a": true, "a.": true, "..a": true, "-": true, "_": true, "A": true, "+": false, " ": false} {
		path(t, "/"+segment, may)
		path(t, "/"+segment+"/b/c", may)
		path(t, "/a/"+segment+"/c", may)
		path(t, "/a/b/"+segment, may)
		path(t, "/"+segment+"/"+segment, may)
		path(t, "/a/"+segment+"/...", may)
	}
}

// P9.1
func TestAgent(t *testing.T) {
	for _, s := range []string{"/agent/n1", "/agent/a", "/agent/A", "/agent/0", "/agent/-", "/agent/_", "/agent/...", "/agent/.a", "/agent/a.", "/agent/..a", "/agent/agent", "/agent/n-1_b.C"} {
		agent(t, s, true)
	}
	for _, s := range []string{
		"", "/", "/agent", "/agent/", "/agent/n1/x", "/agent/n1/", "/agent//n1", "//agent/n1", "/agents/n1", "/Agent/n1", "/AGENT/n1", "/agent/.", "/agent/..", "/agent/./a", "/agent/../a", "/agent/a/..",
		"agent/n1", "agent", "/agen/n1", "/agentn1", "/a/agent/n1", "/agent/n1/agent/n1", "/web", "/agent/n 1", "/agent/n:1", "/agent/ä", "/agent/\x00", "/agent/n1\n", " /agent/n1", "/agent/n1 ", "./agent/n1", "spiffe://a/agent/n1",
	} {
		agent(t, s, false)
	}
	for n := range 40 {
		agent(t, "/agent/"+strings.Repeat("a", n), 1 <= n && n+7 <= 40)
		agent(t, "/agent/"+strings.Repeat(".", n), 3 <= n && n+7 <= 40)
	}
	agent(t, "/agent/"+strings.Repeat("a", 33), true)
	agent(t, "/agent/"+strings.Repeat("a", 34), false)
	agent(t, "/agent/"+strings.Repeat("a", 1<<20), false)
	for b := range 256 {
		one := string([]byte{byte(b)})
		may := strings.Contains(small+great+digits+".-_", one)
		agent(t, "/agent/"+one, may && one != ".")
		agent(t, "/agent/n"+one, may)
		agent(t, "/agent/n"+one+"m", may)
		agent(t, "/agen"+one+"/n", one == "t")
		agent(t, "/agent"+one+"n", one == "/")
		agent(t, one+"agent/n", one == "/")
	}
}

// P9.1
func TestSelector(t *testing.T) {
	for _, s := range []string{"a:1", "uid:1", "unix:uid", "z:z", "u:a:b", "u::", "u:::", "u::1", "u:1:", "u:A", "u:!", "u:~", `u:"`, `u:\`, "u:/bin/sh", "abcdefgh:0123456789abcdef", "ijklmnop:ghijklmnopqrstuv"} {
		selector(t, s, true)
	}
	for _, s := range []string{
		"", ":", "::", "a", "uid", "uid1", ":1", "::1", ":a:1", "uid:", "a:", "Uid:1", "uiD:1", "UID:1", "u1:1", "u-d:1", "u_d:1", "u.d:1", "1:1", "u d:1", " uid:1", "uid :1", "uid: 1", "uid:1 ", "uid:a b", "uid:\n", "uid:1\n", "uid:\x7f", "uid:\x00", "uid:ä", "ä:1",
		"abcdefghi:1", "abcdefghijkl:1", "uid:0123456789abcdefg", "uid;1", "uid=1",
	} {
		selector(t, s, false)
	}
}

// P9.1: kinds of 0 to 10 bytes, values of 0 to 18, and many.
func TestSelectorOfLengths(t *testing.T) {
	for kind := range 11 {
		for value := range 19 {
			may := 1 <= kind && kind <= 8 && 1 <= value && value <= 16
			selector(t, strings.Repeat("k", kind)+":"+strings.Repeat("v", value), may)
			selector(t, strings.Repeat("k", kind)+":"+strings.Repeat(":", value), may)
		}
	}
	selector(t, strings.Repeat("k", 8+256)+":1", false)
	selector(t, "uid:"+strings.Repeat("v", 16+256), false)
	selector(t, strings.Repeat("k", 1<<20), false)
	selector(t, "uid:"+strings.Repeat("v", 1<<20), false)
}

// P9.1: each byte in the kind and in the value.
func TestSelectorOfEachByte(t *testing.T) {
	for b := range 256 {
		one := string([]byte{byte(b)})
		inKind := 'a' <= b && b <= 'z'
		inValue := 33 <= b && b <= 126
		selector(t, one+":1", inKind)
		selector(t, one+"id:1", inKind)
		selector(t, "u"+one+"d:1", inKind || b == ':')
		selector(t, "ui"+one+":1", inKind || b == ':')
		selector(t, "abcdefg"+one+":1", inKind || b == ':')
		selector(t, "uid"+one+"1", b == ':')
		selector(t, "uid:"+one, inValue)
		selector(t, "uid:"+one+"1", inValue)
		selector(t, "uid:1"+one+"2", inValue)
		selector(t, "uid:0123456789abcde"+one, inValue)
	}
}

// P9.1: all short texts of some bytes, held against the document's words.
func TestAllShortTexts(t *testing.T) {
	for _, s := range texts("az09AZ.-_/: ", 4) {
		domain(t, s, domainByWords(s))
		path(t, s, pathByWords(s))
		path(t, "/"+s, pathByWords("/"+s))
		agent(t, s, agentByWords(s))
		agent(t, "/agent/"+s, agentByWords("/agent/"+s))
		selector(t, s, selectorByWords(s))
	}
	for _, s := range texts("a./", 9) {
		path(t, s, pathByWords(s))
		agent(t, "/agent"+s, agentByWords("/agent"+s))
	}
	for _, s := range texts("a.-", 8) {
		domain(t, s, domainByWords(s))
	}
	for _, s := range texts("a:!", 8) {
		selector(t, s, selectorByWords(s))
	}
}

// P9.1: texts that are nearly right, changed by chance.
func TestChangedTexts(t *testing.T) {
	chance := rand.New(rand.NewSource(1))
	for range 40000 {
		s := changed(chance, []string{"abcdefghijklmnop", "a.b-c", "a-0.z9-x.y"}[chance.Intn(3)], small+digits+".-A_/")
		domain(t, s, domainByWords(s))
		s = changed(chance, []string{"/db/web/front", "/a/.../.b/c./..d/-/_/ABCDEFGHIJKLMNOPQR", "/agent/n1", "/agent/ABCDEFGHIJKLMNOPQRSTUVWXYZ0123456"}[chance.Intn(4)], small+great+digits+"......----____//////: ")
		path(t, s, pathByWords(s))
		agent(t, s, agentByWords(s))
		s = changed(chance, []string{"uid:1000", "abcdefgh:0123456789abcdef", "k::a:b"}[chance.Intn(3)], small+":::!~ A")
		selector(t, s, selectorByWords(s))
	}
}

// P9.1
func TestMake(t *testing.T) {
	made(t, "a", "/b", "spiffe://a/b")
	made(t, "a.org", "/db", "spiffe://a.org/db")
	made(t, "a.org", "/agent/n1", "spiffe://a.org/agent/n1")
	made(t, "a..b", "/.../A_b-c.", "spiffe://a..b/.../A_b-c.")
	made(t, "abcdefghijklmnop", "/"+strings.Repeat("Z", 39), "spiffe://abcdefghijklmnop/"+strings.Repeat("Z", 39))
	domains := list("", ".", "a.", "-a", "A", "a_b", "a/b", "a b", "/a", "spiffe://a", "abcdefghijklmnopq", "a\x00", "ä")
	paths := list("", "/", "a", "/a/", "//a", "/.", "/..", "/a/../b", "/a b", "/"+strings.Repeat("a", 40), "/a\x00", "/ä", "a.org/db")
	for _, d := range domains {
		notMade(t, d, "/db")
		for _, p := range paths {
			notMade(t, "a.org", p)
			notMade(t, d, p)
		}
	}
	notMade(t, "/db", "a.org")
}

// P9.1
func TestParse(t *testing.T) {
	parsed(t, "spiffe://a/b", "a", "/b")
	parsed(t, "spiffe://a.org/x/y", "a.org", "/x/y")
	parsed(t, "spiffe://a.org/agent/n1", "a.org", "/agent/n1")
	parsed(t, "spiffe://spiffe/spiffe", "spiffe", "/spiffe")
	parsed(t, "spiffe://0/...", "0", "/...")
	parsed(t, "spiffe://abcdefghijklmnop/"+strings.Repeat("Z", 39), "abcdefghijklmnop", "/"+strings.Repeat("Z", 39))
	for _, s := range []string{
		"", "spiffe://", "a.org/db", "//a.org/db", "://a.org/db", "http://a.org/db", "spiffe:/a.org/db", "spiffe:a.org/db", "spiffe:///a.org/db", "spiffee://a.org/db", "xspiffe://a.org/db", "piffe://a.org/db",
		"SPIFFE://a.org/db", "Spiffe://a.org/db", "spiffE://a.org/db", "spiffe://A.org/db", " spiffe://a.org/db", "spiffe://a.org/db ", "spiffe://a.org/db\n", "\x00spiffe://a.org/db",
		"spiffe:///db", "spiffe:////db", "spiffe://.a/db", "spiffe://a./db", "spiffe://-a/db", "spiffe://a_b/db", "spiffe://abcdefghijklmnopq/db", "spiffe:// /db", "spiffe://a:1/db", "spiffe://u@a/db",
		"spiffe://a.org", "spiffe://a.org/", "spiffe://a.org//", "spiffe://a.org//db", "spiffe://a.org/db/", "spiffe://a.org/.", "spiffe://a.org/..", "spiffe://a.org/a/../b", "spiffe://a.org/d b", "spiffe://a.org/db?x", "spiffe://a.org/db#x", "spiffe://a.org/%61",
		"spiffe://a.org/" + strings.Repeat("a", 40), "spiffe://a.orgdb", "spiffe://spiffe://a.org/db", "spiffe://spiffe://", "spiffe://a.org/dä", "spiffe://" + strings.Repeat("a", 1<<20), "spiffe://a/" + strings.Repeat("a", 1<<20),
	} {
		notParsed(t, s)
	}
}

// P9.1: all that an id begins with: an id only where the path has a whole last segment.
func TestParseOfTextsThatEndTooSoon(t *testing.T) {
	for _, s := range []string{"spiffe://a.org/db", "spiffe://a-b.c/agent/n1", "spiffe://abcdefghijklmnop/a/.../..b/.c/_"} {
		for n := range len(s) {
			if d, p, err := parseByWords(s[:n]); err == api.OK {
				parsed(t, s[:n], d, p)
			} else {
				notParsed(t, s[:n])
			}
			if n > 0 {
				notParsed(t, s[n:])
			}
		}
	}
	const shortest = "spiffe://a.org/d"
	for n := range len(shortest) {
		notParsed(t, shortest[:n])
	}
}

// P9.1: each byte in place of each one of an id.
func TestParseOfEachByte(t *testing.T) {
	const id = "spiffe://a.org/d/.b"
	for at := range len(id) {
		for b := range 256 {
			s := id[:at] + string([]byte{byte(b)}) + id[at+1:]
			d, p, err := parseByWords(s)
			if at < len("spiffe://") && (err == api.OK) != (s == id) {
				t.Fatalf("by the words %q is %v", s, err)
			}
			if err == api.OK {
				parsed(t, s, d, p)
			} else {
				notParsed(t, s)
			}
		}
	}
}

// P9.1, P9.3: what is made is read as what it was made of, and two are the same only if they were made of the same.
func TestMadeIsParsed(t *testing.T) {
	from := map[string][2]string{}
	domains := texts("a1.-", 4)
	paths := append(texts("aZ./", 4), "/agent/a", "/agent/a/a", "/"+strings.Repeat("a", 39))
	for _, d := range domains {
		for _, p := range paths {
			if !domainByWords(d) || !pathByWords(p) {
				notMade(t, d, p)
				continue
			}
			id, err := ids.Make(d, p)
			parsed(t, id, d, p)
			if other, there := from[id]; err != api.OK || there {
				t.Fatalf("%q of %q, %q and of %q", id, d, p, other)
			}
			from[id] = [2]string{d, p}
		}
	}
	if len(from) < 3000 {
		t.Fatal(len(from))
	}
}

// P9.1, P9.3: what is parsed is made again of its domain and path, and there are no other ones that it is made of.
func TestParsedIsMade(t *testing.T) {
	count := 0
	for _, rest := range texts("a.-/A", 7) {
		s := "spiffe://" + rest
		d, p, err := parseByWords(s)
		if err != api.OK {
			notParsed(t, s)
			continue
		}
		parsed(t, s, d, p)
		for at := range len(rest) + 1 {
			if rest[:at] != d {
				notMade(t, rest[:at], rest[at:])
			}
		}
		count++
	}
	if count < 1000 {
		t.Fatal(count)
	}
}

// orders are all orders of a list.
func orders(l []string) [][]string {
	if len(l) == 0 {
		return [][]string{nil}
	}
	var all [][]string
	for i := range l {
		for _, rest := range orders(slices.Delete(slices.Clone(l), i, i+1)) {
			all = append(all, append(list(l[i]), rest...))
		}
	}
	return all
}

// P9.2
func TestSet(t *testing.T) {
	set(t, nil)
	set(t, list())
	set(t, list("a:1"), "a:1")
	set(t, list("a:1", "a:1"), "a:1")
	set(t, list("a:1", "b:1", "a:1", "b:1", "a:1"), "a:1", "b:1")
	set(t, slices.Repeat(list("a:1"), 1000), "a:1")
	set(t, list("b:2", "a:1", "b:2", "c:1", "d:1"), "a:1", "b:2", "c:1", "d:1")
	set(t, slices.Repeat(list("d:1", "c:1", "b:1", "a:1"), 300), "a:1", "b:1", "c:1", "d:1")
	noSet(t, list("a:1", "b:1", "c:1", "d:1", "e:1"), api.ErrLong)
	noSet(t, append(slices.Repeat(list("d:1", "c:1", "b:1", "a:1"), 300), "e:1"), api.ErrLong)
	noSet(t, append(list("e:1"), slices.Repeat(list("d:1", "c:1", "b:1", "a:1"), 300)...), api.ErrLong)
	noSet(t, list("a:1", "a:2", "a:3", "a:4", "a:5", "a:6", "a:7", "a:8", "a:9"), api.ErrLong)
}

// P9.2: all orders of four, with each of them there twice, and with a fifth one.
func TestSetOfOrders(t *testing.T) {
	for _, want := range [][]string{
		{"a:1", "b:1", "c:1", "d:1"},
		{"uid:1", "uid:10", "uid:2", "uid:A"},
		{"a:!", "a:a", "aa:1", "b:!"},
		{"a:A", "a:Z", "a:a", "a:z"},
		{"abcdefgh:1", "abcdefgh:~", "i:0", "i:::"},
		{"k:v", "k:v!", "k:vv", "k:vvv"},
		{"a:-", "a:/", "a:~"},
		{"x:1", "x:2"},
	} {
		for _, order := range orders(want) {
			set(t, order, want...)
			for at := range order {
				set(t, append(slices.Clone(order), order[at]), want...)
				set(t, slices.Insert(slices.Clone(order), 0, order[at]), want...)
			}
			if len(want) == 4 {
				noSet(t, append(slices.Clone(order), "j:0"), api.ErrLong)
				noSet(t, append(list("j:0"), order...), api.ErrLong)
			}
		}
	}
}

// P9.2, R2: something that is no selector at each place, ahead of and behind lists that are too long besides.
func TestSetOfNoSelectors(t *testing.T) {
	for _, none := range list("", ":", "a", "a:", ":1", "A:1", "a:b c", "a:\x7f", "abcdefghi:1", "a:0123456789abcdefg", "\x00", "ä:1") {
		noSet(t, list(none), api.ErrForm)
		noSet(t, list(none, none), api.ErrForm)
		for _, l := range [][]string{{"a:1"}, {"a:1", "b:1"}, {"d:1", "c:1", "b:1", "a:1"}, {"a:1", "a:1", "a:1", "a:1", "a:1", "a:1"}, {"a:1", "b:1", "c:1", "d:1", "e:1"}, {"g:1", "f:1", "e:1", "d:1", "c:1", "b:1", "a:1"}} {
			for at := range len(l) + 1 {
				noSet(t, slices.Insert(slices.Clone(l), at, none), api.ErrForm)
			}
		}
	}
}

// P9.2: all lists of up to six of some, held against the document's words.
func TestSetOfAllLists(t *testing.T) {
	some := list("b:1", "a:1", "a:10", "c:1", "aa:0", "a:")
	for _, places := range texts("012345", 6) {
		var l []string
		for _, place := range places {
			l = append(l, some[place-'0'])
		}
		if want, err := setByWords(l); err == api.OK {
			set(t, l, want...)
		} else {
			noSet(t, l, err)
		}
	}
}

// P9.2: the set of a set is it again, and has what stands in the list.
func TestSetOfSets(t *testing.T) {
	chance := rand.New(rand.NewSource(2))
	some := list("uid:1", "uid:2", "gid:1", "path:/bin/a", "k:v")
	for range 2000 {
		var l []string
		for range chance.Intn(8) {
			l = append(l, some[chance.Intn(len(some))])
		}
		got, err := ids.Set(l)
		if err != api.OK {
			continue
		}
		set(t, got, got...)
		within(t, got, l, true)
		within(t, l, got, true)
		if !slices.IsSorted(got) || len(slices.Compact(slices.Clone(got))) != len(got) {
			t.Fatalf("%q", got)
		}
	}
}

// P9.2
func TestWithin(t *testing.T) {
	within(t, nil, nil, true)
	within(t, list(), nil, true)
	within(t, nil, list(), true)
	within(t, list(), list(), true)
	within(t, nil, list("a:1"), true)
	within(t, list(), list("a:1", "b:1"), true)
	within(t, list("a:1"), nil, false)
	within(t, list("a:1"), list(), false)
	within(t, list("a:1"), list("a:1"), true)
	within(t, list("a:1"), list("b:1"), false)
	within(t, list("a:1"), list("b:1", "a:1"), true)
	within(t, list("a:1", "b:1"), list("b:1", "a:1"), true)
	within(t, list("a:1", "b:1"), list("a:1"), false)
	within(t, list("b:1", "a:1"), list("a:1"), false)
	within(t, list("a:1", "a:1", "a:1"), list("a:1"), true)
	within(t, list("a:1"), list("a:1", "a:1", "a:1"), true)
	within(t, list("a:1", "c:1"), list("a:1", "b:1", "c:1", "d:1"), true)
	within(t, list("a:1", "e:1"), list("a:1", "b:1", "c:1", "d:1"), false)
	within(t, list("a:1"), list("a:10"), false)
	within(t, list("a:10"), list("a:1"), false)
	within(t, list("a:1"), list("A:1", "a:1 ", " a:1"), false)
}

// P9.2: texts that are no selectors, and lists that are no sets.
func TestWithinOfAnyTexts(t *testing.T) {
	within(t, list(""), nil, false)
	within(t, list(""), list(""), true)
	within(t, list(""), list("a"), false)
	within(t, list("a"), list(""), false)
	within(t, list("a", "", "b c", "\x00\xff", ":"), list(":", "b c", "\x00\xff", "a", ""), true)
	within(t, list("a", "", "b c", "\x00\xff", ":"), list(":", "b c", "\x00\xfe", "a", ""), false)
	within(t, list("ab"), list("a", "b"), false)
	within(t, list("a", "b"), list("ab"), false)
	within(t, list("a,b"), list("a", "b"), false)
	long := strings.Repeat("a", 100000)
	within(t, list(long), list(long[:99999], long+"a"), false)
	within(t, list(long), list(long[:99999], strings.Repeat("a", 100000)), true)
}

// P9.2: all pairs of lists of up to four of some, held against the document's words.
func TestWithinOfAllLists(t *testing.T) {
	some := list("a:1", "b:1", "", "x")
	var lists [][]string
	for _, places := range texts("0123", 4) {
		var l []string
		for _, place := range places {
			l = append(l, some[place-'0'])
		}
		lists = append(lists, l)
	}
	for _, a := range lists {
		for _, b := range lists {
			within(t, a, b, withinByWords(a, b))
		}
	}
}

// P9.2: long lists do not take long.
func TestWithinOfLongLists(t *testing.T) {
	var l []string
	for i := range 1 << 17 {
		l = append(l, "k:"+strings.Repeat("0", i%7)+string(rune('a'+i%26))+string([]byte{byte(i), byte(i >> 8), byte(i >> 16)}))
	}
	within(t, l, l, true)
	within(t, l, l[1:], false)
	within(t, l[1:], l, true)
	within(t, l, l[:len(l)-1], false)
}

// R4
func TestNilIsEmpty(t *testing.T) {
	for _, l := range [][]string{nil, {}, make([]string, 0, 8), list("a:1")[:0]} {
		if got, err := ids.Set(l); len(got) != 0 || err != api.OK {
			t.Errorf("%q, %v", got, err)
		}
		for _, other := range [][]string{nil, {}} {
			within(t, l, other, true)
			within(t, list(""), l, false)
		}
	}
}

// roomy is a list with something in its spare room.
func roomy(l []string) []string {
	return append(slices.Clone(l), "zz:9", "a:0", "", "spare")[:len(l)]
}

// R4: of each call, whatever it answers.
func TestHandedInStays(t *testing.T) {
	for _, l := range [][]string{nil, {"a:1"}, {"b:1", "a:1"}, {"b:1", "a:1", "b:1", "a:1"}, {"a:1", "a:1", "b:1"}, {"e:1", "d:1", "c:1", "b:1", "a:1"}, {"d:1", "c:1", "b:1", "a:1"}, {"c:1", "", "b:1", "a:1"}, {"", "x"}} {
		handed := roomy(l)
		other := roomy(list("c:1", "a:1", "b:1"))
		ids.Set(handed)
		ids.Within(handed, other)
		ids.Within(other, handed)
		if whole := handed[:len(l)+4]; !slices.Equal(whole, append(slices.Clone(l), "zz:9", "a:0", "", "spare")) {
			t.Errorf("%q became %q", l, whole)
		}
		if whole := other[:7]; !slices.Equal(whole, list("c:1", "a:1", "b:1", "zz:9", "a:0", "", "spare")) {
			t.Errorf("the other became %q", whole)
		}
	}
}

// R4: lists that are sets already too.
func TestAnsweredIsNew(t *testing.T) {
	for _, l := range [][]string{{"a:1"}, {"a:1", "b:1"}, {"a:1", "a:1"}, {"d:1", "c:1", "b:1", "a:1"}, {"a:1", "b:1", "c:1", "d:1"}} {
		handed := roomy(l)
		first, _ := ids.Set(handed)
		second, _ := ids.Set(handed)
		want := slices.Clone(second)
		for i := range cap(first) {
			first[:cap(first)][i] = "other"
		}
		if !slices.Equal(second, want) || !slices.Equal(handed, l) {
			t.Errorf("%q: %q, %q", l, second, handed)
		}
		for i := range handed {
			handed[i] = "gone"
		}
		if !slices.Equal(second, want) {
			t.Errorf("%q: %q", l, second)
		}
	}
}

// R5: no call tells what another one was asked.
func TestHangsOnArgumentsAlone(t *testing.T) {
	for range 50 {
		ids.Set(list("x:1", "y:1"))
		ids.Set(list("x:1", "y:1", "z:1", "w:1", "v:1"))
		ids.Set(list("none"))
		ids.Parse("spiffe://b/c")
		ids.Make("b", "c")
		ids.Within(list("a:1"), list("a:1", "x:1"))
		set(t, list("b:1", "a:1"), "a:1", "b:1")
		set(t, list("b:1", "a:1", "none")[:2], "a:1", "b:1")
		within(t, list("x:1"), list("b:1", "a:1", "x:1")[:2], false)
		parsed(t, "spiffe://a.org/db", "a.org", "/db")
		parsed(t, "spiffe://a.org/db/"[:17], "a.org", "/db")
		domain(t, "a.org/db"[:5], true)
		path(t, "/a/.."[:2], true)
	}
}

// R5
func TestAtOnce(t *testing.T) {
	var wait sync.WaitGroup
	for n := range 8 {
		wait.Go(func() {
			name := string(rune('a' + n))
			for range 300 {
				id, err := ids.Make(name, "/"+name)
				d, p, again := ids.Parse(id)
				if d != name || p != "/"+name || err != api.OK || again != api.OK {
					t.Errorf("%q, %q, %v, %v", d, p, err, again)
				}
				l, err := ids.Set(list(name+":2", name+":1", name+":2"))
				if !slices.Equal(l, list(name+":1", name+":2")) || err != api.OK || !ids.Within(l, l) {
					t.Errorf("%q, %v", l, err)
				}
				if !ids.Agent("/agent/"+name) || ids.Agent("/"+name) {
					t.Error(name)
				}
			}
		})
	}
	wait.Wait()
}
