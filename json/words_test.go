package json_test

import (
	"strings"

	"brevet/api"
)

// byWords is what Read must tell of a text, byte by byte, as the document's words say where something is wrong.
func byWords(s string) api.Errno {
	if len(s) > 2000 {
		return api.ErrLong
	}
	m := &machine{want: "value"}
	for i := range len(s) {
		if err := m.byte(s[i]); err != api.OK {
			return err
		}
	}
	if m.want == "digits" && len(m.open) == 0 {
		return api.OK
	}
	if m.want != "end" {
		return api.ErrForm
	}
	return api.OK
}

// machine has no calls in one another: what is open stands in a list, and what may come next is a word.
type machine struct {
	open   []map[string]bool // of a list nil, of a map the names that are there
	want   string
	isName bool
	text   []byte
	escape string
	word   string
	number string
}

func (m *machine) byte(b byte) api.Errno {
	switch m.want {
	case "text":
		return m.inText(b)
	case "escape":
		return m.inEscape(b)
	case "word":
		if b != m.word[0] {
			return api.ErrForm
		}
		if m.word = m.word[1:]; m.word == "" {
			m.close()
		}
		return api.OK
	case "digits":
		if b >= '0' && b <= '9' {
			return m.inNumber(b)
		}
		m.close()
	case "digit":
		return m.inNumber(b)
	}
	if b == 32 || b == 9 || b == 10 || b == 13 {
		return api.OK
	}
	return m.sign(b)
}

// close is what is wanted behind a value.
func (m *machine) close() {
	m.want = "end"
	if len(m.open) > 0 {
		m.want = "comma"
	}
}

func (m *machine) sign(b byte) api.Errno {
	last := len(m.open) - 1
	switch {
	case m.want == "colon" && b == ':':
		m.want = "value"
	case m.want == "comma" && b == ',' && m.open[last] == nil:
		m.want = "value"
	case m.want == "comma" && b == ',':
		m.want = "name"
	case (m.want == "comma" || m.want == "value or ]") && b == ']' && m.open[last] == nil,
		(m.want == "comma" || m.want == "name or }") && b == '}' && m.open[last] != nil:
		m.open = m.open[:last]
		m.close()
	case (m.want == "name" || m.want == "name or }") && b == '"':
		m.want, m.isName, m.text = "text", true, nil
	case m.want == "value" || m.want == "value or ]":
		return m.value(b)
	default:
		return api.ErrForm
	}
	return api.OK
}

func (m *machine) value(b byte) api.Errno {
	switch b {
	case '[', '{':
		if len(m.open) == 6 {
			return api.ErrDeep
		}
		var names map[string]bool
		m.want = "value or ]"
		if b == '{' {
			names, m.want = map[string]bool{}, "name or }"
		}
		m.open = append(m.open, names)
	case '"':
		m.want, m.isName, m.text = "text", false, nil
	case 'n', 't', 'f':
		m.want = "word"
		m.word = map[byte]string{'n': "ull", 't': "rue", 'f': "alse"}[b]
	case '-':
		m.want, m.number = "digit", "-"
	default:
		m.number = ""
		return m.inNumber(b)
	}
	return api.OK
}

func (m *machine) inNumber(b byte) api.Errno {
	if b < '0' || b > '9' || m.number == "0" || m.number == "-" && b == '0' {
		return api.ErrForm
	}
	m.want, m.number = "digits", m.number+string(rune(b))
	digits := strings.TrimPrefix(m.number, "-")
	if len(digits) > 16 || len(digits) == 16 && digits > "1000000000000000" {
		return api.ErrForm
	}
	return api.OK
}

func (m *machine) inText(b byte) api.Errno {
	switch {
	case b == '\\':
		m.want, m.escape = "escape", ""
	case b == '"':
		return m.endText()
	case b < 32 || b > 126:
		return api.ErrForm
	default:
		m.text = append(m.text, b)
	}
	return api.OK
}

func (m *machine) endText() api.Errno {
	if !m.isName {
		m.close()
		return api.OK
	}
	names := m.open[len(m.open)-1]
	if names[string(m.text)] {
		return api.ErrExist
	}
	names[string(m.text)] = true
	m.want = "colon"
	return api.OK
}

// escapes are all that may stand behind a `\`, and what they tell.
var escapes = func() map[string]byte {
	all := map[string]byte{`"`: '"', `\`: '\\', "/": '/', "b": 8, "f": 12, "n": 10, "r": 13, "t": 9}
	for _, digits := range []string{"0123456789abcdef", "0123456789ABCDEF"} {
		for n := range 127 {
			all["u00"+digits[n/16:n/16+1]+digits[n%16:n%16+1]] = byte(n)
		}
	}
	return all
}()

// ahead are all that an escape may be so far.
var ahead = func() map[string]bool {
	all := map[string]bool{}
	for e := range escapes {
		for i := range e {
			all[e[:i+1]] = true
		}
	}
	return all
}()

func (m *machine) inEscape(b byte) api.Errno {
	m.escape += string([]byte{b})
	if !ahead[m.escape] {
		return api.ErrForm
	}
	if told, ok := escapes[m.escape]; ok {
		m.text = append(m.text, told)
		m.want = "text"
	}
	return api.OK
}
