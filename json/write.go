package json

import (
	"strconv"
	"strings"

	"brevet/api"
)

// writer puts a value's text together. Its methods tell whether what they are given is a value.
type writer struct {
	strings.Builder
	level
}

// put leaves off what follows a text that is too long already: that is still gone through, for it may be no value's.
func (w *writer) put(s string) {
	if w.Len() <= api.MaxJson {
		w.WriteString(s)
	}
}

func (w *writer) value(v api.Json) bool {
	if hasOthers(v) {
		return false
	}
	switch v.Kind {
	case api.JsonNull:
		w.put("null")
		return true
	case api.JsonBool:
		return w.truth(v.Number)
	case api.JsonInt:
		return w.integer(v.Number)
	case api.JsonText:
		return w.text(v.Text)
	case api.JsonList:
		return w.list(v.Kids)
	case api.JsonMap:
		return w.table(v.Names, v.Kids)
	}
	return false
}

// hasOthers tells whether there is something in fields that are not of the value's kind.
func hasOthers(v api.Json) bool {
	isNumber := v.Kind == api.JsonBool || v.Kind == api.JsonInt
	isText := v.Kind == api.JsonText
	isMap := v.Kind == api.JsonMap
	hasKids := v.Kind == api.JsonList || isMap
	return v.Number != 0 && !isNumber || v.Text != "" && !isText || len(v.Names) > 0 && !isMap || len(v.Kids) > 0 && !hasKids
}

func (w *writer) truth(n int) bool {
	switch n {
	case 0:
		w.put("false")
	case 1:
		w.put("true")
	default:
		return false
	}
	return true
}

func (w *writer) integer(n int) bool {
	if n < -greatest || n > greatest {
		return false
	}
	w.put(strconv.Itoa(n))
	return true
}

func (w *writer) text(s string) bool {
	w.put(`"`)
	for i := range len(s) {
		if s[i] > lastByte {
			return false
		}
		w.put(written(s[i]))
	}
	w.put(`"`)
	return true
}

// written is how a byte stands in a text.
func written(b byte) string {
	const digits = "0123456789abcdef"
	if b < firstPlain {
		return `\u00` + string([]byte{digits[b/16], digits[b%16]})
	}
	if b == '"' || b == '\\' {
		return `\` + string(rune(b))
	}
	return string(rune(b))
}

func (w *writer) list(kids []api.Json) bool {
	if !w.deeper() {
		return false
	}
	defer w.higher()
	w.put("[")
	for i, kid := range kids {
		if i > 0 {
			w.put(",")
		}
		if !w.value(kid) {
			return false
		}
	}
	w.put("]")
	return true
}

func (w *writer) table(names []string, kids []api.Json) bool {
	if len(names) != len(kids) || !areUnlike(names) || !w.deeper() {
		return false
	}
	defer w.higher()
	w.put("{")
	for i, kid := range kids {
		if i > 0 {
			w.put(",")
		}
		if !w.text(names[i]) {
			return false
		}
		w.put(":")
		if !w.value(kid) {
			return false
		}
	}
	w.put("}")
	return true
}

// areUnlike looks names up, since nothing says how many there are.
func areUnlike(names []string) bool {
	there := make(map[string]struct{}, len(names))
	for _, name := range names {
		there[name] = struct{}{}
	}
	return len(there) == len(names)
}
