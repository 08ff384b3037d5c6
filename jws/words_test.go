package jws_test

import (
	"crypto/ed25519"
	"encoding/base64"
	"regexp"
	"strconv"
	"strings"

	"brevet/api"
	"brevet/ids"
	"brevet/json"
)

// The document's words, written once more as patterns.
var (
	kidWords     = regexp.MustCompile(`\A[a-z0-9]{1,16}\z`)
	audWords     = regexp.MustCompile(`\A[!#-\[\]-~]{1,16}\z`)
	lettersWords = regexp.MustCompile(`\A[A-Za-z0-9_-]*\z`)
	headWords    = regexp.MustCompile(`\A\{"alg":"EdDSA","kid":"([^"\\]*)","typ":"JWT"\}\z`)
	bodyWords    = regexp.MustCompile(`\A\{"aud":\["([^\\]*)"\],"exp":(0|[1-9][0-9]*),"iat":(0|[1-9][0-9]*),"sub":"([^"\\]*)"\}\z`)
)

func isIDByWords(s string) bool {
	_, _, err := ids.Parse(s)
	return err == api.OK
}

func mayBeByWords(c api.Claims) bool {
	seen := map[string]int{}
	for _, aud := range c.Aud {
		if seen[aud]++; !audWords.MatchString(aud) {
			return false
		}
	}
	inTime := c.Exp >= 0 && c.Exp <= 1<<40 && c.Iat >= 0 && c.Iat <= 1<<40
	return isIDByWords(c.Sub) && len(seen) == len(c.Aud) && len(seen) >= 1 && len(seen) <= 4 && inTime
}

func letters(s string) string {
	return base64.RawURLEncoding.EncodeToString([]byte(s))
}

// unlettered needs a pattern besides, since the library passes over ends of lines.
func unlettered(s string) (string, bool) {
	b, err := base64.RawURLEncoding.Strict().DecodeString(s)
	return string(b), err == nil && lettersWords.MatchString(s)
}

func headByWords(kid string) string {
	return `{"alg":"EdDSA","kid":"` + kid + `","typ":"JWT"}`
}

func bodyByWords(c api.Claims) string {
	return `{"aud":["` + strings.Join(c.Aud, `","`) + `"],"exp":` + strconv.Itoa(c.Exp) + `,"iat":` + strconv.Itoa(c.Iat) + `,"sub":"` + c.Sub + `"}`
}

// joined is what has these three parts, whatever they are.
func joined(head, body, sig string) string {
	return letters(head) + "." + letters(body) + "." + letters(sig)
}

// signedBy is what has these two parts and the library's signature of them.
func signedBy(seed []byte, head, body string) string {
	signed := letters(head) + "." + letters(body)
	return signed + "." + letters(string(ed25519.Sign(ed25519.NewKeyFromSeed(seed), []byte(signed))))
}

func mintByWords(seed []byte, kid string, c api.Claims) (string, api.Errno) {
	if len(seed) != 32 || !kidWords.MatchString(kid) || !mayBeByWords(c) {
		return "", api.ErrArg
	}
	token := signedBy(seed, headByWords(kid), bodyByWords(c))
	if len(token) > 600 {
		return "", api.ErrLong
	}
	return token, api.OK
}

func isMap(s string) bool {
	v, err := json.Read(s)
	return err == api.OK && v.Kind == api.JsonMap
}

// hasAlg asks the map, since a text has more than one way to tell EdDSA.
func hasAlg(head string) bool {
	v, _ := json.Read(head)
	alg, ok := json.Get(v, "alg")
	return ok && alg.Kind == api.JsonText && alg.Text == "EdDSA"
}

func readByWords(token string) (kid string, c api.Claims, err api.Errno) {
	if len(token) > 600 {
		return "", api.Claims{}, api.ErrLong
	}
	parts := strings.Split(token, ".")
	for i, part := range parts {
		text, ok := unlettered(part)
		if parts[i] = text; !ok {
			return "", api.Claims{}, api.ErrForm
		}
	}
	if len(parts) != 3 || !isMap(parts[0]) || !isMap(parts[1]) {
		return "", api.Claims{}, api.ErrForm
	}
	if !hasAlg(parts[0]) {
		return "", api.Claims{}, api.ErrAlg
	}
	head, body := headWords.FindStringSubmatch(parts[0]), bodyWords.FindStringSubmatch(parts[1])
	if head == nil || body == nil || len(parts[2]) != 64 {
		return "", api.Claims{}, api.ErrForm
	}
	c = api.Claims{Sub: body[4], Aud: strings.Split(body[1], `","`)}
	c.Exp, _ = strconv.Atoi(body[2])
	c.Iat, _ = strconv.Atoi(body[3])
	if !kidWords.MatchString(head[1]) || !mayBeByWords(c) {
		return "", api.Claims{}, api.ErrForm
	}
	return head[1], c, api.OK
}
