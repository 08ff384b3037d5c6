package jws

import (
	"strings"

	"brevet/api"
	"brevet/b64"
	"brevet/json"
)

const (
	partCount     = 3
	signatureSize = 64
)

// content is what a token tells.
type content struct {
	kid    string
	claims api.Claims
	signed string
	sig    []byte
}

// read takes out of the parts only what a token would be written of. Whatever else stands there, or stands otherwise, is then not written again.
func read(token string) (content, api.Errno) {
	if len(token) > api.MaxToken {
		return content{}, api.ErrLong
	}
	parts, ok := partsOf(token)
	if !ok {
		return content{}, api.ErrForm
	}
	head, headOk := table(parts[0])
	body, bodyOk := table(parts[1])
	if !headOk || !bodyOk {
		return content{}, api.ErrForm
	}
	// What is read of another kind has no Text.
	if at(head, nameAlg).Text != algorithm {
		return content{}, api.ErrAlg
	}
	kid, c, sig := at(head, nameKid).Text, claimsOf(body), parts[2]
	if !isKid(kid) || !mayBe(c) || len(sig) != signatureSize || written(headText(kid), bodyText(c), sig) != token {
		return content{}, api.ErrForm
	}
	return content{kid, c, token[:strings.LastIndex(token, dot)], []byte(sig)}, api.OK
}

// partsOf is what stands between the dots, out of its letters.
func partsOf(token string) ([]string, bool) {
	var parts []string
	for letters := range strings.SplitSeq(token, dot) {
		part, err := b64.Decode(letters)
		if err != api.OK {
			return nil, false
		}
		parts = append(parts, string(part))
	}
	return parts, len(parts) == partCount
}

// table is the map whose text it is.
func table(s string) (api.Json, bool) {
	v, err := json.Read(s)
	return v, err == api.OK && v.Kind == api.JsonMap
}

// at is what stands at a name, or null.
func at(v api.Json, name string) api.Json {
	kid, _ := json.Get(v, name)
	return kid
}

// claimsOf is what a body says, whether it may be or not.
func claimsOf(body api.Json) api.Claims {
	c := api.Claims{Sub: at(body, nameSub).Text, Exp: at(body, nameExp).Number, Iat: at(body, nameIat).Number}
	for _, aud := range at(body, nameAud).Kids {
		c.Aud = append(c.Aud, aud.Text)
	}
	return c
}
