package json

import (
	"slices"
	"strings"

	"brevet/api"
)

// reader reads a text from the front on, and stops at the first thing that is wrong.
type reader struct {
	level
	rest   string
	begins map[byte]beginning
}

// beginning reads a value that begins in some way.
type beginning func(*reader) (api.Json, api.Errno)

// beginnings is what reads a value, by its first byte.
func beginnings() map[byte]beginning {
	return map[byte]beginning{
		'n': (*reader).null, 't': (*reader).yes, 'f': (*reader).no,
		'-': (*reader).integer, '0': (*reader).integer, '1': (*reader).integer, '2': (*reader).integer,
		'3': (*reader).integer, '4': (*reader).integer, '5': (*reader).integer, '6': (*reader).integer,
		'7': (*reader).integer, '8': (*reader).integer, '9': (*reader).integer,
		'"': (*reader).text, '[': (*reader).list, '{': (*reader).table,
	}
}

// next is the next byte; at the end 0, which is right nowhere.
func (r *reader) next() byte {
	if r.rest == "" {
		return 0
	}
	return r.rest[0]
}

// take goes on behind the next byte.
func (r *reader) take() byte {
	b := r.next()
	r.rest = r.rest[min(1, len(r.rest)):]
	return b
}

// skip goes on behind s, if that is next.
func (r *reader) skip(s string) bool {
	rest, ok := strings.CutPrefix(r.rest, s)
	r.rest = rest
	return ok
}

func (r *reader) blanks() {
	r.rest = strings.TrimLeft(r.rest, " \t\n\r")
}

// value reads a value, with the blanks ahead of it and behind it.
func (r *reader) value() (api.Json, api.Errno) {
	r.blanks()
	read, ok := r.begins[r.next()]
	if !ok {
		return api.Json{}, api.ErrForm
	}
	v, err := read(r)
	r.blanks()
	return v, err
}

func (r *reader) null() (api.Json, api.Errno) {
	return r.word("null", api.Json{Kind: api.JsonNull})
}

func (r *reader) yes() (api.Json, api.Errno) {
	return r.word("true", api.Json{Kind: api.JsonBool, Number: 1})
}

func (r *reader) no() (api.Json, api.Errno) {
	return r.word("false", api.Json{Kind: api.JsonBool})
}

// word reads a value that is told by one word.
func (r *reader) word(word string, v api.Json) (api.Json, api.Errno) {
	if !r.skip(word) {
		return api.Json{}, api.ErrForm
	}
	return v, api.OK
}

func (r *reader) integer() (api.Json, api.Errno) {
	sign := 1
	if r.skip("-") {
		sign = -1
	}
	if r.skip("0") {
		// A digit that follows is met as what may not stand behind a value.
		if sign < 0 {
			return api.Json{}, api.ErrForm
		}
		return api.Json{Kind: api.JsonInt}, api.OK
	}
	n := 0
	for isDigit(r.next()) && n <= greatest {
		n = 10*n + int(r.take()-'0')
	}
	if n == 0 || n > greatest {
		return api.Json{}, api.ErrForm
	}
	return api.Json{Kind: api.JsonInt, Number: sign * n}, api.OK
}

func isDigit(b byte) bool {
	return '0' <= b && b <= '9'
}

func (r *reader) text() (api.Json, api.Errno) {
	s, ok := r.quoted()
	if !ok {
		return api.Json{}, api.ErrForm
	}
	return api.Json{Kind: api.JsonText, Text: s}, api.OK
}

// quoted reads the bytes of a text or a name.
func (r *reader) quoted() (string, bool) {
	if !r.skip(`"`) {
		return "", false
	}
	var made strings.Builder
	for {
		b := r.take()
		if b == '"' {
			return made.String(), true
		}
		ok := firstPlain <= b && b <= lastByte
		if b == '\\' {
			b, ok = r.escaped()
		}
		if !ok {
			return "", false
		}
		made.WriteByte(b)
	}
}

// escaped reads the byte that is told behind a `\`.
func (r *reader) escaped() (byte, bool) {
	const marks, told = `"\/bfnrt`, "\"\\/\b\f\n\r\t"
	if r.skip("u00") {
		high, highOk := digit(r.take())
		low, lowOk := digit(r.take())
		b := 16*high + low
		return b, highOk && lowOk && b <= lastByte
	}
	at := strings.IndexByte(marks, r.take())
	if at < 0 {
		return 0, false
	}
	return told[at], true
}

// digit is the number of a digit of sixteen.
func digit(b byte) (byte, bool) {
	const small, great = "0123456789abcdef", "0123456789ABCDEF"
	at := max(strings.IndexByte(small, b), strings.IndexByte(great, b))
	return byte(at), at >= 0
}

func (r *reader) list() (api.Json, api.Errno) {
	v := api.Json{Kind: api.JsonList}
	err := r.items("[", "]", func() api.Errno {
		kid, err := r.value()
		v.Kids = append(v.Kids, kid)
		return err
	})
	return v, err
}

func (r *reader) table() (api.Json, api.Errno) {
	v := api.Json{Kind: api.JsonMap}
	err := r.items("{", "}", func() api.Errno {
		name, err := r.name(v.Names)
		if err != api.OK {
			return err
		}
		kid, err := r.value()
		v.Names, v.Kids = append(v.Names, name), append(v.Kids, kid)
		return err
	})
	return v, err
}

// items reads what is one deeper: it stands between two signs, with commas between.
func (r *reader) items(begin, end string, item func() api.Errno) api.Errno {
	if !r.deeper() {
		return api.ErrDeep
	}
	defer r.higher()
	r.skip(begin)
	r.blanks()
	if r.skip(end) {
		return api.OK
	}
	for {
		if err := item(); err != api.OK {
			return err
		}
		if r.skip(end) {
			return api.OK
		}
		if !r.skip(",") {
			return api.ErrForm
		}
	}
}

// name reads a name that is not there yet, and what stands between it and its value.
func (r *reader) name(there []string) (string, api.Errno) {
	r.blanks()
	name, ok := r.quoted()
	if !ok {
		return "", api.ErrForm
	}
	if slices.Contains(there, name) {
		return "", api.ErrExist
	}
	r.blanks()
	if !r.skip(":") {
		return "", api.ErrForm
	}
	return name, api.OK
}
