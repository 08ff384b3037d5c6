package json_test

import (
	standard "encoding/json"
	"fmt"
	"math"
	"math/rand"
	"reflect"
	"runtime/debug"
	"slices"
	"strings"
	"sync"
	"testing"

	"brevet/api"
	"brevet/json"
)

const most = 1_000_000_000_000_000

func truth(n int) api.Json   { return api.Json{Kind: api.JsonBool, Number: n} }
func number(n int) api.Json  { return api.Json{Kind: api.JsonInt, Number: n} }
func text(s string) api.Json { return api.Json{Kind: api.JsonText, Text: s} }

func list(kids ...api.Json) api.Json { return api.Json{Kind: api.JsonList, Kids: kids} }

// table has one name a letter.
func table(names string, kids ...api.Json) api.Json {
	v := api.Json{Kind: api.JsonMap, Kids: kids}
	for _, name := range names {
		v.Names = append(v.Names, string(name))
	}
	return v
}

// deep is a value with n lists, or maps, around it.
func deep(n int, v api.Json) (lists, maps api.Json) {
	lists, maps = v, v
	for range n {
		lists, maps = list(lists), table("a", maps)
	}
	return lists, maps
}

// same tells whether two are alike, nil and empty lists as one.
func same(a, b api.Json) bool {
	return a.Kind == b.Kind && a.Number == b.Number && a.Text == b.Text && slices.Equal(a.Names, b.Names) && slices.EqualFunc(a.Kids, b.Kids, same)
}

// clone is a value that shares no memory.
func clone(v api.Json) api.Json {
	v.Names = slices.Clone(v.Names)
	v.Kids = slices.Clone(v.Kids)
	for i := range v.Kids {
		v.Kids[i] = clone(v.Kids[i])
	}
	return v
}

func written(t *testing.T, v api.Json, want string) {
	t.Helper()
	if got, err := json.Write(v); got != want || err != api.OK {
		t.Fatalf("Write of %+v: %q, %v, want %q", v, got, err, want)
	}
}

func notWritten(t *testing.T, v api.Json, want api.Errno) {
	t.Helper()
	if got, err := json.Write(v); got != "" || err != want {
		t.Fatalf("Write of %.300s: %.300q, %v, want %v", fmt.Sprintf("%+v", v), got, err, want)
	}
}

func read(t *testing.T, s string, want api.Json) {
	t.Helper()
	if got, err := json.Read(s); err != api.OK || !same(got, want) {
		t.Fatalf("Read of %q: %+v, %v, want %+v", s, got, err, want)
	}
}

// refused holds what Read tells of a text against an errno, and against the document's words.
func refused(t *testing.T, s string, want api.Errno) {
	t.Helper()
	if got, err := json.Read(s); err != want || !reflect.DeepEqual(got, api.Json{}) {
		t.Fatalf("Read of %.300q: %+v, %v, want the zero value, %v", s, got, err, want)
	}
	if words := byWords(s); words != want {
		t.Fatalf("%.300q: by the words %v, want %v", s, words, want)
	}
}

// known are values, and their texts.
var known = []struct {
	value api.Json
	text  string
}{
	{api.Json{}, `null`},
	{truth(0), `false`},
	{truth(1), `true`},
	{number(0), `0`},
	{number(1), `1`},
	{number(-1), `-1`},
	{number(9), `9`},
	{number(10), `10`},
	{number(-10), `-10`},
	{number(1234567890), `1234567890`},
	{number(-987654321098765), `-987654321098765`},
	{number(999999999999999), `999999999999999`},
	{number(most - 1), `999999999999999`},
	{number(most), `1000000000000000`},
	{number(-most), `-1000000000000000`},
	{text(""), `""`},
	{text("a"), `"a"`},
	{text(`"`), `"\""`},
	{text(`\`), `"\\"`},
	{text(`\"\\""`), `"\\\"\\\\\"\""`},
	{text("/"), `"/"`},
	{text("\x00\x01\b\t\n\v\f\r\x0e\x1a\x1f"), `"\u0000\u0001\u0008\u0009\u000a\u000b\u000c\u000d\u000e\u001a\u001f"`},
	{text(" !~}"), `" !~}"`},
	{text("a,b:[c]{d}"), `"a,b:[c]{d}"`},
	{text("null"), `"null"`},
	{text("</&>'`"), "\"</&>'`\""},
	{list(), `[]`},
	{list(api.Json{}), `[null]`},
	{list(api.Json{}, truth(1), truth(0), number(-5), text("x"), list(), table("")), `[null,true,false,-5,"x",[],{}]`},
	{list(list(list()), list(), list(number(1), list(number(2), number(3)))), `[[[]],[],[1,[2,3]]]`},
	{table(""), `{}`},
	{table("a", number(1)), `{"a":1}`},
	{table("ba", number(1), number(2)), `{"b":1,"a":2}`},
	{table("aA\"\\\n~", number(1), api.Json{}, truth(0), text("a"), list(text("a")), table("a", number(1))), `{"a":1,"A":null,"\"":false,"\\":"a","\u000a":["a"],"~":{"a":1}}`},
	{api.Json{Kind: api.JsonMap, Names: []string{"", "alg", "alg "}, Kids: []api.Json{text("EdDSA"), text(""), number(7)}}, `{"":"EdDSA","alg":"","alg ":7}`},
	{table("ab", table("ab", number(1), number(2)), table("ab", number(3), table(""))), `{"a":{"a":1,"b":2},"b":{"a":3,"b":{}}}`},
	{list(list(list(list(list(list()))))), `[[[[[[]]]]]]`},
	{list(list(list(list(list(list(number(1), text("x"))))))), `[[[[[[1,"x"]]]]]]`},
	{table("a", table("a", table("a", table("a", table("a", table("a", number(1))))))), `{"a":{"a":{"a":{"a":{"a":{"a":1}}}}}}`},
	{list(table("a", list(table("b", list(table("")))))), `[{"a":[{"b":[{}]}]}]`},
	{list(list(list(list(list(list(), list(), table("")), list(list())), list(list()))), list()), `[[[[[[],[],{}],[[]]],[[]]]],[]]`},
}

// P8.1, P8.3
func TestKnown(t *testing.T) {
	for _, c := range known {
		written(t, c.value, c.text)
		read(t, c.text, c.value)
	}
}

// P8.1: the document's examples.
func TestExamples(t *testing.T) {
	v, err := json.Read(` {"a" : [1,true]}`)
	if err != api.OK {
		t.Fatal(err)
	}
	written(t, v, `{"a":[1,true]}`)
	refused(t, `[[[[[[[`, api.ErrDeep)
}

// textOf is a byte's text as the document's words tell it.
func textOf(b int) string {
	switch {
	case b < 32:
		return fmt.Sprintf(`\u%04x`, b)
	case b == '"':
		return `\"`
	case b == '\\':
		return `\\`
	}
	return string(rune(b))
}

// P8.1, P8.3: each byte, in a text and in a name, alone and between others.
func TestEachByte(t *testing.T) {
	for b := range 256 {
		one := string([]byte{byte(b)})
		for _, s := range []string{one, "x" + one, one + "x", "\"" + one + "\\", one + one} {
			name := api.Json{Kind: api.JsonMap, Names: []string{s}, Kids: []api.Json{{}}}
			if b > 126 {
				notWritten(t, text(s), api.ErrArg)
				notWritten(t, name, api.ErrArg)
				notWritten(t, list(number(1), text(s)), api.ErrArg)
				notWritten(t, list(number(1), name), api.ErrArg)
				continue
			}
			want := `"`
			for _, c := range []byte(s) {
				want += textOf(int(c))
			}
			want += `"`
			written(t, text(s), want)
			read(t, want, text(s))
			written(t, name, "{"+want+":null}")
			read(t, "{"+want+":null}", name)
		}
	}
}

// P8.1, P8.3
func TestIntegers(t *testing.T) {
	check := func(n int) {
		t.Helper()
		digits := fmt.Sprint(n)
		if n < -most || n > most {
			notWritten(t, number(n), api.ErrArg)
			refused(t, digits, api.ErrForm)
			return
		}
		written(t, number(n), digits)
		read(t, digits, number(n))
	}
	for n := -2000; n <= 2000; n++ {
		check(n)
	}
	for power := 1; power <= most*1000; power *= 10 {
		for _, times := range []int{1, 2, 5, 9} {
			for more := -2; more <= 2; more++ {
				check(times*power + more)
				check(-times*power + more)
			}
		}
	}
	for shift := range 64 {
		for more := -1; more <= 1; more++ {
			check(1<<shift + more)
			check(-1<<shift + more)
		}
	}
	for _, n := range []int{math.MinInt, math.MinInt + 1, math.MaxInt, math.MaxInt - 1, most + 1, -most - 1} {
		check(n)
	}
	chance := rand.New(rand.NewSource(1))
	for range 20000 {
		check(chance.Intn(2*most+1) - most)
	}
}

// none are no values.
func none() []api.Json {
	kid, name := []api.Json{{}}, []string{"a"}
	all := []api.Json{
		{Kind: -1}, {Kind: 6}, {Kind: 7}, {Kind: 256}, {Kind: 1 << 32}, {Kind: math.MaxInt}, {Kind: math.MinInt},
		{Kind: 6, Kids: kid}, {Kind: -1, Text: "a"},
		truth(2), truth(-1), truth(256), truth(math.MaxInt), truth(math.MinInt),
		number(most + 1), number(-most - 1), number(math.MaxInt), number(math.MinInt), number(1 << 53),
		text("\x7f"), text("\x80"), text("\xff"), text("é"), text("ab\x7fcd"), text("\x7f" + strings.Repeat("a", 100)), text(strings.Repeat("a", 100) + "\xe2"),
		table("a\x7f", number(1), number(2)), table("é", number(1)), {Kind: api.JsonMap, Names: []string{"a", "bc\xff"}, Kids: make([]api.Json, 2)},
		table("aa", number(1), number(1)), table("aa", number(1), number(2)), table("abcdefa", make([]api.Json, 7)...), table("abcdeff", make([]api.Json, 7)...),
		{Kind: api.JsonMap, Names: []string{"", ""}, Kids: make([]api.Json, 2)}, {Kind: api.JsonMap, Names: []string{"alg", "kid", "alg"}, Kids: make([]api.Json, 3)},
		table("a"), table("ab"), table("", number(1)), table("a", number(1), number(2)), table("ab", number(1)), table("abc", make([]api.Json, 2)...), table("abc", make([]api.Json, 4)...),
	}
	for kind := api.JsonNull; kind <= api.JsonMap; kind++ {
		v := api.Json{Kind: kind}
		if kind != api.JsonBool && kind != api.JsonInt {
			more := v
			for _, n := range []int{1, -1, most, math.MinInt} {
				more.Number = n
				all = append(all, more)
			}
		}
		if kind != api.JsonText {
			more := v
			more.Text = "a"
			all = append(all, more)
			more.Text = "\x00"
			all = append(all, more)
		}
		if kind != api.JsonMap {
			more := v
			more.Names = name
			all = append(all, more)
			more.Names = []string{""}
			all = append(all, more)
			more.Names, more.Kids = name, kid
			all = append(all, more)
		}
		if kind != api.JsonList {
			more := v
			more.Kids = kid
			all = append(all, more)
		}
	}
	full := table("a", number(1))
	full.Number = 1
	all = append(all, full)
	full.Number, full.Text = 0, "a"
	all = append(all, full)
	long := list(number(1))
	long.Number = 1
	return append(all, long)
}

// P8.1: also deep inside, at each depth, ahead of others and behind them.
func TestWriteOfNoValue(t *testing.T) {
	for _, v := range none() {
		notWritten(t, v, api.ErrArg)
		for n := range 7 {
			for _, inner := range []api.Json{v, list(v, number(1)), list(number(1), v), table("ab", v, number(1)), table("ab", number(1), v)} {
				lists, maps := deep(n, inner)
				notWritten(t, lists, api.ErrArg)
				notWritten(t, maps, api.ErrArg)
			}
		}
	}
}

// P8.1
func TestWriteOfDeep(t *testing.T) {
	for n := range 20 {
		for _, inner := range []api.Json{{}, number(1), text("[[[[[[[{{{{{{{")} {
			lists, maps := deep(n, inner)
			if n > 6 {
				notWritten(t, lists, api.ErrArg)
				notWritten(t, maps, api.ErrArg)
				notWritten(t, list(number(1), lists), api.ErrArg)
				continue
			}
			s, _ := json.Write(inner)
			written(t, lists, strings.Repeat("[", n)+s+strings.Repeat("]", n))
			written(t, maps, strings.Repeat(`{"a":`, n)+s+strings.Repeat("}", n))
		}
	}
	five, _ := deep(5, list())
	_, other := deep(5, table(""))
	notWritten(t, list(five), api.ErrArg)
	notWritten(t, table("a", other), api.ErrArg)
	notWritten(t, list(number(1), other), api.ErrArg)
	notWritten(t, table("ab", number(1), five), api.ErrArg)
	// Many beside one another are not in one another, also behind deep ones.
	written(t, list(list(), list(), list(), list(), list(), list(), list(), list()), `[[],[],[],[],[],[],[],[]]`)
	four, _ := deep(4, list())
	wide := list(four, table("a", four.Kids[0]), four, four, list(), table(""), four)
	if _, err := json.Write(list(five.Kids[0], five.Kids[0], wide.Kids[1], wide.Kids[0])); err != api.OK {
		t.Error(err)
	}
	if _, err := json.Write(wide); err != api.OK {
		t.Error(err)
	}
}

// ofSize are values whose text has n bytes, n at least 20.
func ofSize(n int) []api.Json {
	a := func(n int) string { return strings.Repeat("a", n) }
	ones := make([]api.Json, (n-1)/2)
	for i := range ones {
		ones[i] = number(1)
	}
	if n%2 == 0 {
		ones[0] = number(12)
	}
	short := strings.Repeat("\x01", (n-2)/6) + a((n-2)%6)
	quotes := strings.Repeat(`"`, (n-2)/2) + a((n-2)%2)
	return []api.Json{
		text(a(n - 2)), text(short), text(quotes), list(text(a(n - 4))), list(text(a(n-6)), number(1)), list(number(1), text(a(n-6))),
		{Kind: api.JsonList, Kids: ones},
		{Kind: api.JsonMap, Names: []string{a(n - 6)}, Kids: []api.Json{number(1)}},
		table("a", text(a(n-8))),
		list(text(a(n-15)), table("a", list(number(-1)))),
	}
}

// P8.1
func TestWriteOfLong(t *testing.T) {
	for _, n := range []int{20, 21, 1998, 1999, 2000} {
		for _, v := range ofSize(n) {
			s, err := json.Write(v)
			if len(s) != n || err != api.OK {
				t.Fatalf("%d bytes, %v, want %d", len(s), err, n)
			}
			read(t, s, v)
		}
	}
	for _, n := range []int{2001, 2002, 2003, 2010, 2100, 4000, 10001, 1 << 20} {
		for _, v := range ofSize(n) {
			notWritten(t, v, api.ErrLong)
		}
	}
	notWritten(t, list(make([]api.Json, 1<<20)...), api.ErrLong)
	many := api.Json{Kind: api.JsonMap}
	for n := range 1 << 17 {
		many.Names, many.Kids = append(many.Names, fmt.Sprint(n)), append(many.Kids, api.Json{})
	}
	notWritten(t, many, api.ErrLong)
	// A number's, a word's, and a last sign's bytes count, too.
	for n, last := range map[int]api.Json{16: number(most), 17: number(-most), 4: truth(1), 5: truth(0)} {
		written(t, list(text(strings.Repeat("a", 1995-n)), last), `["`+strings.Repeat("a", 1995-n)+`",`+fmt.Sprint(textIs(last))+`]`)
		notWritten(t, list(text(strings.Repeat("a", 1996-n)), last), api.ErrLong)
	}
}

func textIs(v api.Json) string {
	s, _ := json.Write(v)
	return s
}

// R2: what is no value is told ahead of what is too long, whichever stands ahead.
func TestWriteOfNoLongValue(t *testing.T) {
	for _, n := range []int{2001, 3000, 1 << 17} {
		for _, v := range none() {
			a := text(strings.Repeat("a", n))
			for _, both := range []api.Json{list(a, v), list(v, a), table("ab", a, v), table("ab", v, a), list(list(a), list(v)), list(a, a, list(list(v), a))} {
				notWritten(t, both, api.ErrArg)
			}
		}
		notWritten(t, text(strings.Repeat("a", n)+"\x7f"), api.ErrArg)
		notWritten(t, text("\x7f"+strings.Repeat("a", n)), api.ErrArg)
		notWritten(t, api.Json{Kind: api.JsonMap, Names: []string{strings.Repeat("a", n), "\x80"}, Kids: make([]api.Json, 2)}, api.ErrArg)
		notWritten(t, api.Json{Kind: api.JsonMap, Names: []string{strings.Repeat("a", n), strings.Repeat("a", n)}, Kids: make([]api.Json, 2)}, api.ErrArg)
		notWritten(t, api.Json{Kind: api.JsonText, Text: strings.Repeat("a", n), Number: 1}, api.ErrArg)
		lists, maps := deep(7, number(1))
		notWritten(t, list(text(strings.Repeat("a", n)), lists), api.ErrArg)
		notWritten(t, list(text(strings.Repeat("a", n)), maps), api.ErrArg)
	}
	many := api.Json{Kind: api.JsonMap, Kids: make([]api.Json, 1<<17+1)}
	for n := range 1 << 17 {
		many.Names = append(many.Names, fmt.Sprint(n))
	}
	many.Names = append(many.Names, "77777")
	notWritten(t, many, api.ErrArg)
}

// parts are texts cut where blanks may stand.
var parts = [][]string{
	{`null`}, {`true`}, {`false`}, {`0`}, {`-12`}, {`""`}, {`"a b"`}, {`[`, `]`}, {`{`, `}`},
	{`[`, `1`, `]`}, {`[`, `1`, `,`, `"x"`, `,`, `null`, `]`}, {`[`, `[`, `]`, `,`, `[`, `true`, `]`, `,`, `{`, `}`, `]`},
	{`{`, `"a"`, `:`, `1`, `}`}, {`{`, `"a"`, `:`, `[`, `]`, `,`, `""`, `:`, `{`, `"a"`, `:`, `false`, `}`, `,`, `"b"`, `:`, `"c"`, `}`},
}

// P8.1: blanks at each place where they may stand, of each kind, and no other byte there.
func TestReadOfBlanks(t *testing.T) {
	for _, p := range parts {
		want, err := json.Read(strings.Join(p, ""))
		if err != api.OK {
			t.Fatal(p, err)
		}
		for _, blanks := range []string{" ", "\t", "\n", "\r", "  ", "\r\n", " \t\n\r \t"} {
			read(t, blanks+strings.Join(p, blanks)+blanks, want)
			for i := 0; i <= len(p); i++ {
				read(t, strings.Join(p[:i], "")+blanks+strings.Join(p[i:], ""), want)
			}
		}
		for b := range 256 {
			if strings.IndexByte(" \t\n\r", byte(b)) >= 0 || b >= '0' && b <= '9' {
				continue
			}
			for i := 0; i <= len(p); i++ {
				s := strings.Join(p[:i], "") + " " + string([]byte{byte(b)}) + " " + strings.Join(p[i:], "")
				if _, err := json.Read(s); err != byWords(s) {
					t.Fatalf("%q: %v, want %v", s, err, byWords(s))
				}
				if b < 32 || b > 126 {
					refused(t, s, api.ErrForm)
				}
			}
		}
		for _, other := range []string{"\v", "\f", "\x00", "\x1c", "\x7f", "\x85", "\xa0", "\u00a0", "\u0085", "\u2028", "\u3000", "\ufeff", "//", "/**/", "#"} {
			for i := 0; i <= len(p); i++ {
				refused(t, strings.Join(p[:i], "")+other+strings.Join(p[i:], ""), api.ErrForm)
			}
		}
	}
}

// P8.1: blanks within a word, a number or an escape.
func TestReadOfBlanksWithin(t *testing.T) {
	for _, s := range []string{"nul l", "n ull", "t rue", "fals e", "1 2", "- 1", "-\n1", "1 0", `"\ n"`, `"\u 000a"`, `"\u00 0a"`, `"\u000 a"`, `[1 2]`, `["a" "b"]`, `{"a" "b"}`, `{"a":1 "b":2}`, `[] []`, `{} {}`, `1 1`, `null null`} {
		refused(t, s, api.ErrForm)
	}
	for _, blank := range "\t\n\r" {
		refused(t, `"`+string(blank)+`"`, api.ErrForm)
		refused(t, `{"a`+string(blank)+`":1}`, api.ErrForm)
	}
	read(t, `" "`, text(" "))
	read(t, `{" a":1,"a ":2,"a":3}`, api.Json{Kind: api.JsonMap, Names: []string{" a", "a ", "a"}, Kids: []api.Json{number(1), number(2), number(3)}})
}

// P8.1: each escape that there is, and each that is none.
func TestReadOfEscapes(t *testing.T) {
	for e, b := range map[string]string{`\/`: "/", `\b`: "\x08", `\f`: "\x0c", `\n`: "\x0a", `\r`: "\x0d", `\t`: "\x09", `\"`: "\"", `\\`: "\\", `\u0041`: "A", `\u007e`: "~", `\u007E`: "~", `\u0000`: "\x00", `\u001F`: "\x1f", `\u000A\u000a`: "\n\n", `\u005c`: "\\", `\u0022`: "\"", `\\u0041`: `\u0041`, `\u005cn`: `\n`, `\u0041f`: "Af"} {
		read(t, `"`+e+`"`, text(b))
		read(t, `["x`+e+`y"]`, list(text("x"+b+"y")))
		read(t, `{"x`+e+`":1}`, api.Json{Kind: api.JsonMap, Names: []string{"x" + b}, Kids: []api.Json{number(1)}})
	}
	for b := range 256 {
		one := string([]byte{byte(b)})
		if _, ok := escapes[one]; ok || one == "u" {
			continue
		}
		for _, s := range []string{`"\` + one + `"`, `"\` + one, `"\` + one + `0000"`, `{"\` + one + `":1}`} {
			refused(t, s, api.ErrForm)
		}
	}
	for n := range 1 << 16 {
		for _, form := range []string{"%04x", "%04X"} {
			s := `"\u` + fmt.Sprintf(form, n) + `"`
			if n > 126 {
				refused(t, s, api.ErrForm)
				continue
			}
			read(t, s, text(string(rune(n))))
		}
	}
	for b := range 256 {
		one := string([]byte{byte(b)})
		if strings.Contains("0123456789abcdefABCDEF", one) {
			continue
		}
		for i := range 4 {
			refused(t, `"\u`+"0041"[:i]+one+"0041"[i+1:]+`"`, api.ErrForm)
			refused(t, `"\u`+"0041"[:i]+one, api.ErrForm)
		}
	}
	for _, s := range []string{`"\"`, `"\`, `"\u"`, `"\u0"`, `"\u00"`, `"\u004"`, `"\u`, `"\u0`, `"\u00`, `"\u004`, `"\u0041`, `"\U0041"`, `"\u+041"`, `"\u0x41"`, `"\x41"`, `"\101"`, `"\0"`, `"\'"`, `"\a"`, `"\v"`, `"\e"`, `"\N"`, `"\u{41}"`, `"\u00e9"`, `"\ud83d\ude00"`, `"\u0141"`, `"\u1041"`, `"\uff41"`, `"\u0080"`, `"\u00ff"`} {
		refused(t, s, api.ErrForm)
	}
}

// P8.1: a byte that stands in a text, or a name, as itself.
func TestReadOfPlainBytes(t *testing.T) {
	for b := range 256 {
		one := string([]byte{byte(b)})
		for _, s := range []string{`"` + one + `x"`, `"x` + one + `"`, `{"` + one + `x":1}`} {
			v, err := json.Read(s)
			if b < 32 || b > 126 || b == '\\' || b == '"' {
				refused(t, s, api.ErrForm)
				continue
			}
			if err != api.OK || v.Text != "" && !strings.Contains(v.Text, one) {
				t.Fatalf("%q: %+v, %v", s, v, err)
			}
		}
	}
	for _, s := range []string{`"é"`, "\"\xc0\x80\"", "\"\xff\"", "\"\u2028\"", `'a'`, "`a`", `"a'`, `{'a':1}`, "\"\x7f\""} {
		refused(t, s, api.ErrForm)
	}
}

// P8.1
func TestReadOfNumbers(t *testing.T) {
	for _, s := range []string{
		"01", "00", "007", "-0", "-00", "-01", "-", "--1", "+1", "+", "+0", "-+1", "1-", "1+1", "1.5", "1.", "1.0", ".5", "-.5", "1e5", "1E5", "1e", "0e0", "0.0", "-0.0", "0x10", "0b1", "0o7", "1_000", "1,000", "1n", "0-", "0a",
		"1000000000000001", "-1000000000000001", "1000000000000002", "1000000000000010", "1100000000000000", "2000000000000000", "9999999999999999", "10000000000000000", "-10000000000000000", "99999999999999999",
		"9223372036854775807", "9223372036854775808", "-9223372036854775808", "18446744073709551616", "18446744073709551617", "-18446744073709551615", "340282366920938463463374607431768211456",
		strings.Repeat("9", 1980), "1" + strings.Repeat("0", 1979), "-" + strings.Repeat("1", 1979), strings.Repeat("0", 1980), strings.Repeat("0", 16) + "1",
		"Infinity", "NaN", "-Infinity", "٣", "１",
	} {
		refused(t, s, api.ErrForm)
		refused(t, " "+s+" ", api.ErrForm)
		refused(t, "["+s+"]", api.ErrForm)
		refused(t, `{"a":`+s+`}`, api.ErrForm)
		refused(t, "["+s+",[[[[[[", api.ErrForm)
	}
	for power := range 200 {
		more := "18446744073709551616" + strings.Repeat("0", power)
		refused(t, more, api.ErrForm)
		refused(t, more[:len(more)-1]+"7", api.ErrForm)
	}
}

// P8.1
func TestReadOfWords(t *testing.T) {
	for _, s := range []string{"nul", "nulll", "null0", "nulla", "n", "nil", "none", "NULL", "Null", "nUll", "tru", "truee", "True", "TRUE", "t", "fals", "falsee", "False", "f", "ftrue", "truefalse", "nullnull", "true1", "undefined", "a", "x", "yes", "trux", "fulse", "'null'", "nuLL", "nul\x00", "tru\x00"} {
		refused(t, s, api.ErrForm)
		refused(t, "["+s+"]", api.ErrForm)
		refused(t, `{"a":`+s+`}`, api.ErrForm)
	}
}

// P8.1: each text of one byte, and of two.
func TestReadOfFewBytes(t *testing.T) {
	for b := range 256 {
		s := string([]byte{byte(b)})
		if b >= '0' && b <= '9' {
			read(t, s, number(b-'0'))
		} else {
			refused(t, s, api.ErrForm)
		}
		for c := range 256 {
			checkWords(t, s+string([]byte{byte(c)}))
		}
	}
}

// P8.1: no text at all, and blanks alone.
func TestReadOfNothing(t *testing.T) {
	for n := range 20 {
		for _, blank := range []string{" ", "\t", "\n", "\r", " \n"} {
			refused(t, strings.Repeat(blank, n), api.ErrForm)
		}
	}
	refused(t, strings.Repeat(" ", 2000), api.ErrForm)
}

// long are texts of every form.
var long = []string{
	`{"alg":"EdDSA","kid":"k1","typ":"JWT"}`,
	`{"aud":["a","b"],"exp":1000,"iat":-900,"sub":"spiffe://a.org/web"}`,
	`{"domain":"a.org","keys":[{"crv":"Ed25519","kid":"0123abcd","kty":"OKP","x":"11qYAYKxCrfVS_7TyWQHOg7hcvPapiMlrwIaaPcHURo"}],"number":3}`,
	` [ null , true , false , 0 , -1000000000000000 , "\"\\\/\b\f\n\r\t\u0041\u007e" , [ ] , { } , { "a" : [ [ [ [ 1 ] ] ] ] , "\u0062" : "b" } ] `,
	`[[[[[[1],[2]],[[3]]]]],{"a":{"b":{"c":{"d":{}}}}}]`,
	`{"":{"":{"":{"":{"":{"":[1]}}}}}}`,
}

// P8.1: an end at every place.
func TestReadOfTextsThatEndTooSoon(t *testing.T) {
	for _, s := range append(long[:5:5], `null`, `true`, `false`, `""`, `"a"`, `"\u0041"`, `[]`, `[1]`, `{}`, `{"a":1}`) {
		whole := strings.TrimSpace(s)
		if _, err := json.Read(whole); err != api.OK {
			t.Fatal(whole, err)
		}
		for i := range whole {
			refused(t, whole[:i], api.ErrForm)
			refused(t, whole[:i]+" ", api.ErrForm)
		}
	}
	// All but the last ones of these end where a list begins that is too deep, and so are refused for that.
	refused(t, long[5], api.ErrDeep)
	deepest := strings.Index(long[5], "[")
	for i := range long[5] {
		want := api.ErrForm
		if i > deepest {
			want = api.ErrDeep
		}
		refused(t, long[5][:i], want)
	}
}

// P8.1
func TestReadOfSomethingBehind(t *testing.T) {
	for _, s := range []string{`null`, `true`, `0`, `-1`, `""`, `[]`, `{}`, `[1,2]`, `{"a":1}`, ` [ ] `} {
		for _, more := range []string{`]`, `}`, `,`, `:`, `"`, `""`, `x`, `null`, `[`, `[]`, `{`, `{}`, ` 1`, "\x00", "\v", `,1`, `-`, "\xff", `[[[[[[[`} {
			refused(t, s+more, api.ErrForm)
			refused(t, s+" "+more, api.ErrForm)
		}
	}
}

// P8.1: signs at wrong places.
func TestReadOfOtherForms(t *testing.T) {
	for _, s := range []string{
		`[,]`, `[1,]`, `[,1]`, `[1,,2]`, `[1;2]`, `[1:2]`, `[1 2]`, `[1}`, `[}`, `{]`, `]`, `}`, `[]]`, `{}}`, `[`, `{`, `,`, `:`, `[:]`, `["a":1]`, `[1"a"]`, `[[]1]`, `[1[]]`, `[1{}]`, `[{}{}]`, `["a""b"]`, `(1)`,
		`{,}`, `{"a"}`, `{"a":}`, `{"a":1,}`, `{,"a":1}`, `{"a":1,,"b":2}`, `{"a"1}`, `{"a",1}`, `{"a"=1}`, `{"a"::1}`, `{"a":1:2}`, `{"a":1;"b":2}`, `{"a":1"b":2}`, `{a:1}`, `{1:1}`, `{null:1}`, `{true:1}`, `{[]:1}`, `{{}:1}`, `{:1}`, `{1}`, `{null}`, `{[]}`, `{"a":1]`, `{"a","b"}`, `{"a":"b":"c"}`, `{"a" "b"}`, `{"a":1,"b"}`, `{"a":1,b:2}`, `{"a":1,2}`,
	} {
		refused(t, s, api.ErrForm)
		refused(t, "["+s+"]", api.ErrForm)
		refused(t, `{"z":`+s+`}`, api.ErrForm)
	}
}

// P8.1, R2: a text that is too long is told ahead of whatever else is wrong.
func TestReadOfLong(t *testing.T) {
	blanks := strings.Repeat(" ", 2500)
	for _, c := range known[:20] {
		for _, n := range []int{1, 1000, 1998, 1999, 2000} {
			more := blanks[:max(0, n-len(c.text))]
			read(t, c.text+more, c.value)
			read(t, more+c.text, c.value)
		}
		for n := 2001; n < 2020; n++ {
			more := blanks[:n-len(c.text)]
			refused(t, c.text+more, api.ErrLong)
			refused(t, more+c.text, api.ErrLong)
		}
	}
	for _, n := range []int{2001, 2002, 4000, 1 << 20} {
		for _, s := range []string{" ", "[", "{", "1", "x", "\xff", "\"", `{"a":1,"a":1}`, "[[[[[[[", "\x00"} {
			whole := strings.Repeat(s, n)[:n]
			refused(t, whole, api.ErrLong)
		}
		refused(t, `"`+strings.Repeat("a", n-2)+`"`, api.ErrLong)
	}
	for _, v := range ofSize(2000) {
		s, _ := json.Write(v)
		read(t, s, v)
		refused(t, s+" ", api.ErrLong)
		refused(t, s+"x", api.ErrLong)
		refused(t, s[:1999]+"\x00", api.ErrForm)
	}
}

// begins are lists and maps that begin, so many that the next one is one too many.
var begins = []string{
	`[[[[[[`, `{"a":{"a":{"a":{"a":{"a":{"a":`, `[{"a":[{"a":[{"a":`, `{"a":[{"a":[{"b":[`, `[1,[2,[3,[4,[5,[6,`, ` [ [ [ [ [ [ `,
	`{"x":1,"a":{"x":1,"a":{"x":1,"a":{"x":1,"a":{"x":1,"a":{"x":1,"a":`,
	`[[],[[],[[],[[],[[],[1,`, `[[[[[{},[1],[`, `[{},{"b":{},"a":[[[[`,
}

// P8.1: one too many, whatever stands behind it; and something wrong ahead of it, which is told then.
func TestReadOfDeep(t *testing.T) {
	for _, s := range begins {
		for _, more := range []string{`[`, `{`, `[[`, `{{`, `[]`, `{}`, `[x`, `{x`, "[\xff", "{\x00", `[]]]]]]]`, `{"a":1,"a":1}`, `[,`, `[)`, ` [`, "\n{ "} {
			refused(t, s+more, api.ErrDeep)
			refused(t, s+"1"+more, api.ErrForm)
			refused(t, s+","+more, api.ErrForm)
			refused(t, s+"x"+more, api.ErrForm)
			refused(t, s+`""`+more, api.ErrForm)
			refused(t, "x"+s+more, api.ErrForm)
		}
		for i := range s {
			checkWords(t, s[:i]+"x"+s[i:]+"[")
			checkWords(t, s[:i]+","+s[i:]+"[")
			checkWords(t, s[:i]+s[i+1:]+"[[")
		}
	}
	for _, s := range []string{`[x,[[[[[[`, `[01,[[[[[[`, `[-0,[[[[[[`, `[1 [[[[[[`, `[1,,[[[[[[`, `["\x",[[[[[[`, `{"a":1,"b",[[[[[[`, `[[[[[["[[[[[[`, `[[[[[[-[`, `[[[[[[1[`, `[[[[[[1,]`, `[nul[[[[[[`, `[1000000000000001,[[[[[[`, `[[[[[[:[`, `[[[[[[}[`} {
		refused(t, s, api.ErrForm)
	}
	for _, s := range []string{`[[[[[[]]]]]]`, `[[[[[[],[],{},{}]]]]]`, `[[[[[[]]]]],[[[[[]]]]],{"a":[[[[]]]]}]`} {
		if v, err := json.Read(s); err != api.OK {
			t.Fatal(s, err)
		} else {
			written(t, v, s)
		}
	}
}

// P8.1: a name that is there already, and something wrong ahead of it and behind it.
func TestReadOfNamesTwice(t *testing.T) {
	for _, s := range []string{
		`{"a":1,"a":2}`, `{"a":1,"a":1}`, `{"":1,"":2}`, `{"a":1,"b":2,"a":3}`, `{"a":1,"b":2,"b":3}`, `{"a":1,"b":2,"c":3,"b":4}`, `{"a":{},"a":{}}`,
		`{"a":1,"a"`, `{"a":1,"a"x`, `{"a":1,"a":`, `{"a":1,"a":x`, `{"a":1,"a",`, `{"a":1,"a"}`, "{\"a\":1,\"a\"\xff", `{"a":1,"a":[[[[[[[`, `{"a":1,"a"[[[[[[[`, `{"a":1,"a":1`, `{"a":1,"a":1}]`, `{"a":1,"a":01}`, `{"a":1,"a":"`,
		`{"a":1,"\u0061":2}`, `{"\u0061":1,"a":2}`, `{"\u0061":1,"\u0061":2}`, `{"a\n":1,"a\u000a":2}`, `{"\u000A":1,"\u000a":2}`, `{"/":1,"\/":2}`, `{"\"":1,"\u0022":2}`, `{"\\":1,"\u005C":2}`, `{"\u007e":1,"~":2}`, `{"\t":1,"\u0009":2}`, `{"a/b":1,"a\/b":2}`,
		` { "a" : 1 , "a" : 2 } `, `[{"a":1,"a":2}]`, `[1,{"b":[],"b":2},x]`, `{"x":{"a":1,"a":2}}`, `{"x":{"a":1,"b":{"a":1}},"x":1}`, `[[[[[{"a":1,"a"`, `{"a":{"b":1},"c":{"b":1},"a":1}`, `[{"a":1},{"a":1},{"a":1,"a":1}]`,
	} {
		refused(t, s, api.ErrExist)
	}
	for _, s := range []string{
		`{"a":1,"a`, `{"a":1,"a\"`, `{"a":1,"a\u0061`, `{"a":1,a":1}`, `{"a":1 "a":2}`, `{"a":01,"a":2}`, `{"a":x,"a":2}`, `{"a"1,"a":2}`, `{"a":1,,"a":2}`, `{"a":1,"b"2,"a":2}`, `x{"a":1,"a":2}`, `[1 {"a":1,"a":2}]`, `{"b":,"a":1,"a":2}`, `{"a":1,"\x","a":2}`, `{"a":1}{"a":1,"a":2}`, `[,{"a":1,"a":2}]`, "{\"a\":1,\"a\x7f\":2}",
	} {
		refused(t, s, api.ErrForm)
	}
	refused(t, `{"a":1,"b":[[[[[[[],"a":1}`, api.ErrDeep)
	refused(t, `{"a":1,"a":[[[[[[[]}`, api.ErrExist)
	refused(t, `[[[[[[[{"a":1,"a":1}`, api.ErrDeep)
	refused(t, `[[[[[{"a":1,"a":[`, api.ErrExist)
	refused(t, `[[[[[{"a":1,"b":[`, api.ErrDeep)
	read(t, `{"a":1,"A":2,"aa":3,"a ":4,"":5}`, api.Json{Kind: api.JsonMap, Names: []string{"a", "A", "aa", "a ", ""}, Kids: []api.Json{number(1), number(2), number(3), number(4), number(5)}})
	read(t, `{"a":{"a":{"a":1}}}`, table("a", table("a", table("a", number(1)))))
	read(t, `[{"a":1},{"a":1}]`, list(table("a", number(1)), table("a", number(1))))
	read(t, `{"a":"a","b":"a"}`, table("ab", text("a"), text("a")))
}

// P8.1: as many names as there is room for, and one of them again.
func TestReadOfManyNames(t *testing.T) {
	var s strings.Builder
	s.WriteString(`{"a":0`)
	n := 1
	for ; s.Len() < 1980; n++ {
		fmt.Fprintf(&s, `,"%d":%d`, n, n%10)
	}
	v, err := json.Read(s.String() + "}")
	if err != api.OK || len(v.Names) != n || len(v.Kids) != n {
		t.Fatal(err, len(v.Names))
	}
	for i := range n {
		if i > 0 && (v.Names[i] != fmt.Sprint(i) || v.Kids[i].Number != i%10) {
			t.Fatal(i, v.Names[i], v.Kids[i])
		}
	}
	written(t, v, s.String()+"}")
	for _, i := range []int{0, 1, n / 2, n - 1} {
		refused(t, s.String()+`,"`+v.Names[i]+`"`, api.ErrExist)
	}
}

// checkWords holds what Read tells of a text against the document's words.
func checkWords(t *testing.T, s string) bool {
	t.Helper()
	want := byWords(s)
	if want != api.OK {
		refused(t, s, want)
		return false
	}
	v, err := json.Read(s)
	if err != api.OK {
		t.Fatalf("Read of %q: %v", s, err)
	}
	checkLibrary(t, s, v)
	return true
}

// plain is a value as the library reads it.
func plain(v api.Json) any {
	switch v.Kind {
	case api.JsonBool:
		return v.Number == 1
	case api.JsonInt:
		return float64(v.Number)
	case api.JsonText:
		return v.Text
	case api.JsonList:
		all := []any{}
		for _, kid := range v.Kids {
			all = append(all, plain(kid))
		}
		return all
	case api.JsonMap:
		all := map[string]any{}
		for i, kid := range v.Kids {
			all[v.Names[i]] = plain(kid)
		}
		return all
	}
	return nil
}

// checkLibrary holds a value that was read, and what is written of it, against the library's.
func checkLibrary(t *testing.T, s string, v api.Json) {
	t.Helper()
	back, err := json.Write(v)
	if err != api.OK {
		t.Fatalf("Write of what %q is read as: %v", s, err)
	}
	for _, s := range []string{s, back} {
		var want any
		if err := standard.Unmarshal([]byte(s), &want); err != nil || !reflect.DeepEqual(plain(v), want) {
			t.Fatalf("%q is read as %+v, by the library as %+v, %v", s, v, want, err)
		}
	}
	read(t, back, v)
}

// P8.1, P8.3: all texts of few signs.
func TestAllShortTexts(t *testing.T) {
	taken := 0
	var each func(s, signs string, left int)
	each = func(s, signs string, left int) {
		if checkWords(t, s) {
			taken++
		}
		if left == 0 {
			return
		}
		for i := range signs {
			each(s+signs[i:i+1], signs, left-1)
		}
	}
	each("", `[]{},:"a10- `, 5)
	each("", `[]{}`, 8)
	each("", `[],1`, 8)
	each(`{"a":1,`, `"a:,1}\`, 6)
	each(`{"`, `"a:,1}`, 6)
	each(`"`, `\u0aA7"`, 6)
	each(`-`, `0123 `, 4)
	each(`[[[[[`, `[]{}",:`, 5)
	each(`{"":[[[[`, `[],{"a":`, 4)
	each(`10000000000000`, `01`, 5)
	if taken < 3000 {
		t.Error("taken:", taken)
	}
}

// P8.1, P8.3: texts of which bytes are changed, added and left off.
func TestChangedTexts(t *testing.T) {
	const bytes = `[]{},:"\u0019aAfnrtbe-/ ` + "\n\x00\x1f\x7f\x80"
	chance := rand.New(rand.NewSource(2))
	texts := slices.Clone(long)
	for _, c := range known {
		texts = append(texts, c.text)
	}
	taken := 0
	for range 60000 {
		s := texts[chance.Intn(len(texts))]
		for range 1 + chance.Intn(3) {
			i := chance.Intn(len(s) + 1)
			one := bytes[chance.Intn(len(bytes))]
			switch chance.Intn(4) {
			case 0:
				s = s[:i] + string([]byte{one}) + s[i:]
			case 1:
				s = s[:i] + s[min(i+1, len(s)):]
			case 2:
				s = s[:i] + string([]byte{one}) + s[min(i+1, len(s)):]
			case 3:
				other := texts[chance.Intn(len(texts))]
				s = s[:i] + other[chance.Intn(len(other)):]
			}
		}
		if checkWords(t, s) {
			taken++
		}
	}
	if taken < 2000 {
		t.Error("taken:", taken)
	}
}

// anyValue is a value of at most so many lists and maps in one another.
func anyValue(chance *rand.Rand, deep int) api.Json {
	kind := chance.Intn(6)
	if deep == 0 {
		kind = chance.Intn(4)
	}
	v := api.Json{Kind: kind}
	switch kind {
	case api.JsonBool:
		v.Number = chance.Intn(2)
	case api.JsonInt:
		v.Number = (chance.Intn(2*most+1) - most) / []int{1, 1000, most / 10}[chance.Intn(3)]
	case api.JsonText:
		v.Text = anyText(chance)
	case api.JsonList, api.JsonMap:
		for n := range chance.Intn(4) {
			v.Kids = append(v.Kids, anyValue(chance, deep-1))
			if kind == api.JsonMap {
				v.Names = append(v.Names, fmt.Sprint(n)+anyText(chance))
			}
		}
	}
	return v
}

func anyText(chance *rand.Rand) string {
	b := make([]byte, chance.Intn(6))
	for i := range b {
		b[i] = byte(chance.Intn(127))
	}
	return string(b)
}

// P8.3
func TestWrittenIsRead(t *testing.T) {
	chance := rand.New(rand.NewSource(3))
	taken := 0
	for range 30000 {
		v := anyValue(chance, 6)
		s, err := json.Write(v)
		if err == api.ErrLong {
			continue
		}
		if err != api.OK {
			t.Fatalf("Write of %+v: %v", v, err)
		}
		taken++
		read(t, s, v)
		checkWords(t, s)
		// Nothing that need not be there is written.
		var short strings.Builder
		encoder := standard.NewEncoder(&short)
		encoder.SetEscapeHTML(false)
		if encoder.Encode(plain(v)); v.Kind <= api.JsonInt && s+"\n" != short.String() {
			t.Fatalf("%q, by the library %q", s, short.String())
		}
	}
	if taken < 20000 {
		t.Error("taken:", taken)
	}
}

// P8.3: of one value's text each byte counts: two values have no text in common.
func TestTextsAreUnlike(t *testing.T) {
	seen := map[string]api.Json{}
	chance := rand.New(rand.NewSource(4))
	for range 30000 {
		v := anyValue(chance, 3)
		s, err := json.Write(v)
		if other, ok := seen[s]; err == api.OK && ok && !same(v, other) {
			t.Fatalf("%q is written of %+v and of %+v", s, v, other)
		}
		if err == api.OK {
			seen[s] = v
		}
	}
}

func got(t *testing.T, v api.Json, name string, want api.Json) {
	t.Helper()
	if kid, ok := json.Get(v, name); !ok || !same(kid, want) {
		t.Fatalf("Get of %+v, %q: %+v, %v, want %+v", v, name, kid, ok, want)
	}
}

func notGot(t *testing.T, v api.Json, name string) {
	t.Helper()
	if kid, ok := json.Get(v, name); ok || !reflect.DeepEqual(kid, api.Json{}) {
		t.Fatalf("Get of %+v, %q: %+v, %v", v, name, kid, ok)
	}
}

// P8.2
func TestGet(t *testing.T) {
	v, err := json.Read(`{"a":1,"b":[2,{"c":"x"}],"":null,"A":{"a":true},"\n":""}`)
	if err != api.OK {
		t.Fatal(err)
	}
	got(t, v, "a", number(1))
	got(t, v, "b", list(number(2), table("c", text("x"))))
	got(t, v, "", api.Json{})
	got(t, v, "A", table("a", truth(1)))
	got(t, v, "\n", text(""))
	for _, name := range []string{"c", "B", "aa", "a ", " a", "ab", "\x00", "\\n", "1", "x", "null", "\xff"} {
		notGot(t, v, name)
	}
	inner, _ := json.Get(v, "A")
	got(t, inner, "a", truth(1))
	notGot(t, inner, "A")
	for _, c := range known {
		for _, name := range []string{"", "a", "0", "x", "null"} {
			i := slices.Index(c.value.Names, name)
			if i < 0 {
				notGot(t, c.value, name)
			} else {
				got(t, c.value, name, c.value.Kids[i])
			}
		}
	}
}

// P8.2: of what is no value.
func TestGetOfNoValue(t *testing.T) {
	kids := []api.Json{number(1), number(2), number(3)}
	for kind := -3; kind < 12; kind++ {
		v := api.Json{Kind: kind, Names: []string{"a", "b", "c"}, Kids: kids, Number: 7, Text: "a"}
		if kind == api.JsonMap {
			got(t, v, "b", number(2))
		} else {
			notGot(t, v, "b")
		}
	}
	// A name that is there twice: what stands at the first place.
	got(t, table("aa", kids...), "a", number(1))
	got(t, table("baab", kids...), "a", number(2))
	got(t, table("abb", kids[0]), "a", number(1))
	notGot(t, table("abb", kids[0]), "b")
	// Fewer Kids than Names, and more.
	got(t, table("abc", kids[:2]...), "b", number(2))
	notGot(t, table("abc", kids[:2]...), "c")
	notGot(t, table("abcc", kids[:2]...), "c")
	notGot(t, table("abc"), "a")
	notGot(t, table("a"), "a")
	got(t, table("ab", kids...), "b", number(2))
	notGot(t, table("ab", kids...), "c")
	notGot(t, table("", kids...), "")
	notGot(t, table("", kids...), "a")
	// Names that no value has.
	odd := api.Json{Kind: api.JsonMap, Names: []string{"\x7f", "\xff\xfe", strings.Repeat("a", 5000)}, Kids: kids}
	for i, name := range odd.Names {
		got(t, odd, name, kids[i])
	}
	// What stands there is no value: it is answered as it is.
	for _, v := range none() {
		got(t, table("ab", number(1), v), "b", v)
		got(t, table("ab", list(v, v), v), "a", list(v, v))
	}
	for n := range 30 {
		lists, maps := deep(n, text("\xff"))
		got(t, table("ab", lists, maps), "a", lists)
		got(t, table("ab", lists, maps), "b", maps)
	}
	wide := make([]api.Json, 1<<17)
	names := make([]string, 1<<17)
	for i := range wide {
		wide[i], names[i] = list(number(i)), fmt.Sprint(i)
	}
	v := api.Json{Kind: api.JsonMap, Names: names, Kids: wide}
	got(t, v, "100000", list(number(100000)))
	got(t, table("a", v), "a", v)
}

// R1: of any depth, for which calls in one another would need more and more room.
func TestGetOfVeryDeep(t *testing.T) {
	defer debug.SetMaxStack(debug.SetMaxStack(1 << 24))
	const n = 200_000
	v := text("end")
	for range n {
		v = list(v)
	}
	kid, ok := json.Get(table("a", v), "a")
	for i := range n {
		if !ok || kid.Kind != api.JsonList || len(kid.Kids) != 1 || &kid.Kids[0] == &v.Kids[0] {
			t.Fatal(i, ok, kid.Kind, len(kid.Kids))
		}
		kid, v = kid.Kids[0], v.Kids[0]
	}
	if !same(kid, text("end")) {
		t.Error(kid)
	}
}

// R1: of what stands in itself.
func TestWhatStandsInItself(t *testing.T) {
	kids := []api.Json{number(1), {Kind: api.JsonMap, Names: []string{"a", "b", "c"}}, number(3)}
	kids[1].Kids = kids
	kids[2].Kids = kids[:2]
	notWritten(t, kids[1], api.ErrArg)
	notWritten(t, list(kids...), api.ErrArg)
	got(t, kids[1], "a", number(1))
	v, ok := json.Get(kids[1], "b")
	for i := range 10 {
		if !ok || v.Kind != api.JsonMap || !slices.Equal(v.Names, []string{"a", "b", "c"}) || len(v.Kids) != 3 || v.Kids[0].Number != 1 || v.Kids[2].Number != 3 || len(v.Kids[2].Kids) != 2 {
			t.Fatal(i, ok, v.Kind, v.Names, len(v.Kids))
		}
		if &v.Kids[0] == &kids[0] || &v.Names[0] == &kids[1].Names[0] || &v.Kids[2].Kids[0] == &kids[0] || &v.Kids[2].Kids[0] == &v.Kids[0] {
			t.Fatal(i, "memory is shared")
		}
		v = v.Kids[1]
	}
	v.Kids[0].Number, v.Names[0] = 9, "z"
	if kids[0].Number != 1 || kids[1].Names[0] != "a" {
		t.Error(kids[0].Number, kids[1].Names[0])
	}
}

// R4: what is the same memory twice is not so in the answer.
func TestGetOfSharedMemory(t *testing.T) {
	inner := list(number(1), table("a", number(2)))
	v := table("ab", list(inner, inner, list(inner), list(inner.Kids[:1]...)), inner)
	kid, _ := json.Get(v, "a")
	kid.Kids[0].Kids[0].Number = 9
	kid.Kids[0].Kids[1].Names[0] = "z"
	kid.Kids[2].Kids[0].Kids[1].Kids[0].Number = 8
	if kid.Kids[1].Kids[0].Number != 1 || kid.Kids[2].Kids[0].Kids[0].Number != 1 || kid.Kids[3].Kids[0].Number != 1 ||
		kid.Kids[1].Kids[1].Names[0] != "a" || kid.Kids[1].Kids[1].Kids[0].Number != 2 || kid.Kids[0].Kids[1].Kids[0].Number != 2 {
		t.Errorf("%+v", kid)
	}
	if !same(inner, list(number(1), table("a", number(2)))) {
		t.Errorf("%+v", inner)
	}
}

// R3: fields that a value's kind does not name.
func TestReadLeavesOthersZero(t *testing.T) {
	var check func(v api.Json)
	check = func(v api.Json) {
		if v.Number != 0 && v.Kind != api.JsonBool && v.Kind != api.JsonInt || v.Text != "" && v.Kind != api.JsonText ||
			len(v.Names) > 0 && v.Kind != api.JsonMap || len(v.Kids) > 0 && v.Kind != api.JsonMap && v.Kind != api.JsonList {
			t.Errorf("%+v", v)
		}
		for _, kid := range v.Kids {
			check(kid)
		}
	}
	for _, s := range long[:5] {
		v, err := json.Read(s)
		if err != api.OK {
			t.Fatal(s, err)
		}
		check(v)
	}
}

// R4
func TestNilIsEmpty(t *testing.T) {
	for kind, want := range []string{"null", "false", "0", `""`, "[]", "{}"} {
		for _, names := range [][]string{nil, {}, make([]string, 0, 3), []string{"x", "y"}[:0]} {
			for _, kids := range [][]api.Json{nil, {}, make([]api.Json, 0, 3), []api.Json{number(1), {Kind: 9}}[:0]} {
				v := api.Json{Kind: kind, Names: names, Kids: kids}
				written(t, v, want)
				written(t, list(v, v), "["+want+","+want+"]")
				notGot(t, v, "")
				notGot(t, v, "x")
				got(t, table("a", v), "a", v)
			}
		}
	}
}

// disturb changes all that can be reached from a value, the spare room too.
func disturb(v *api.Json) {
	for i := range v.Names {
		v.Names[i] = "disturbed"
	}
	for i := range v.Kids {
		disturb(&v.Kids[i])
		v.Kids[i] = api.Json{Kind: 99}
	}
	clear(v.Names[:cap(v.Names)])
	clear(v.Kids[:cap(v.Kids)])
	v.Names = append(v.Names[:0], "more", "than", "was", "there")
	v.Kids = append(v.Kids[:0], list(), list(), list())
}

// roomy is a value whose lists have spare room, with something in it.
func roomy(v api.Json) api.Json {
	names := append(slices.Clone(v.Names), "spare", "room")
	kids := []api.Json{}
	for _, kid := range v.Kids {
		kids = append(kids, roomy(kid))
	}
	kids = append(kids, text("spare"), list(text("room")))
	v.Names, v.Kids = names[:len(v.Names)], kids[:len(v.Kids)]
	return v
}

// room is a value with what stands in its lists' spare room.
func room(v api.Json) api.Json {
	v.Names = v.Names[:cap(v.Names)]
	v.Kids = slices.Clone(v.Kids[:cap(v.Kids)])
	for i := range v.Kids {
		v.Kids[i] = room(v.Kids[i])
	}
	return v
}

// R4: also the spare room, at every depth.
func TestHandedInStays(t *testing.T) {
	chance := rand.New(rand.NewSource(5))
	for range 500 {
		v := roomy(anyValue(chance, 5))
		v = roomy(table("abc", v, list(v), number(1)))
		before := clone(room(v))
		json.Write(v)
		json.Get(v, "a")
		json.Get(v, "b")
		json.Get(v, "z")
		if !same(room(v), before) {
			t.Fatalf("%+v became %+v", before, v)
		}
	}
}

// R4: at every depth, and the room behind an answer.
func TestAnsweredIsNew(t *testing.T) {
	chance := rand.New(rand.NewSource(6))
	for range 500 {
		inner := roomy(anyValue(chance, 4))
		v := table("ab", inner, list(number(1)))
		before := clone(room(v))
		first, _ := json.Get(v, "a")
		second, _ := json.Get(v, "a")
		disturb(&first)
		if !same(second, inner) || !same(room(v), before) {
			t.Fatal("Get: the answer shares memory")
		}
		want := clone(inner)
		disturb(&v)
		if !same(second, want) {
			t.Fatal("Get: what was handed in is kept in the answer")
		}
	}
	for _, s := range append(long[:5:5], `[]`, `{}`, `[[],[],[[],[]]]`, `{"a":{"x":1},"b":{"x":1}}`) {
		first, _ := json.Read(s)
		second, err := json.Read(s)
		want := clone(second)
		disturb(&first)
		if err != api.OK || !same(second, want) {
			t.Fatal("Read: the answer shares memory")
		}
	}
}

// R4: of one answer no two lists share memory, nor the room behind them.
func TestListsOfAnAnswerAreApart(t *testing.T) {
	v, err := json.Read(`{"a":[1,2,3],"b":[4,5,6],"c":{"x":7,"y":8},"d":{"x":9,"y":0},"e":[[],[],[1],[2]]}`)
	if err != api.OK {
		t.Fatal(err)
	}
	kid, _ := json.Get(table("a", v), "a")
	for _, whole := range []api.Json{v, kid} {
		want := clone(whole)
		for i := range whole.Kids {
			disturb(&whole.Kids[i])
			for j := i + 1; j < len(whole.Kids); j++ {
				if !same(whole.Kids[j], want.Kids[j]) {
					t.Errorf("%d shares memory with %d", i, j)
				}
			}
			if !slices.Equal(whole.Names, want.Names) {
				t.Error(i, whole.Names)
			}
		}
	}
}

// R2, R5: nothing of what was refused, or asked ahead, comes again.
func TestHangsOnArgumentsAlone(t *testing.T) {
	for _, c := range known {
		json.Read(`{"a":[[[[1,"x`)
		json.Read(`[[[[[[[`)
		json.Write(list(text("rest"), number(most+1)))
		json.Write(text(strings.Repeat("a", 3000)))
		written(t, c.value, c.text)
		read(t, c.text, c.value)
		written(t, roomy(c.value), c.text)
		read(t, ("[[[[[[" + c.text)[6:], c.value)
		read(t, (c.text + `],"x":1}`)[:len(c.text)], c.value)
	}
}

// R5: nothing is kept between calls by which two at once could meet.
func TestAtOnce(t *testing.T) {
	var wait sync.WaitGroup
	for n := range 8 {
		wait.Go(func() {
			for i := range 300 {
				c := known[(n*7+i)%len(known)]
				s, err := json.Write(c.value)
				v, again := json.Read(s)
				kid, ok := json.Get(table("a", v), "a")
				if s != c.text || err != api.OK || again != api.OK || !ok || !same(kid, c.value) {
					t.Errorf("%q, %v, %v, %v", s, err, again, kid)
				}
				if _, err := json.Read(`[[[[[[[`); err != api.ErrDeep {
					t.Error(err)
				}
			}
		})
	}
	wait.Wait()
}
