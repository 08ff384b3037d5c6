package jws

import (
	"strings"

	"brevet/api"
	"brevet/b64"
	"brevet/json"
)

const (
	dot = "." // between parts

	nameAlg = "alg"
	nameKid = "kid"
	nameTyp = "typ"
	nameAud = "aud"
	nameExp = "exp"
	nameIat = "iat"
	nameSub = "sub"

	algorithm = "EdDSA"
	tokenType = "JWT"
)

// written is the letters of each part, with dots between.
func written(parts ...string) string {
	var letters []string
	for _, part := range parts {
		letters = append(letters, b64.Encode([]byte(part)))
	}
	return strings.Join(letters, dot)
}

func headText(kid string) string {
	return textOf(
		member{nameAlg, text(algorithm)},
		member{nameKid, text(kid)},
		member{nameTyp, text(tokenType)},
	)
}

func bodyText(c api.Claims) string {
	aud := api.Json{Kind: api.JsonList}
	for _, one := range c.Aud {
		aud.Kids = append(aud.Kids, text(one))
	}
	return textOf(
		member{nameAud, aud},
		member{nameExp, number(c.Exp)},
		member{nameIat, number(c.Iat)},
		member{nameSub, text(c.Sub)},
	)
}

func text(s string) api.Json {
	return api.Json{Kind: api.JsonText, Text: s}
}

func number(n int) api.Json {
	return api.Json{Kind: api.JsonInt, Number: n}
}

// member is a name of a map, and what stands there.
type member struct {
	name  string
	value api.Json
}

// textOf is a map's text. Of a name and claims that may be there always is one, so no error is told.
func textOf(members ...member) string {
	v := api.Json{Kind: api.JsonMap}
	for _, m := range members {
		v.Names, v.Kids = append(v.Names, m.name), append(v.Kids, m.value)
	}
	s, _ := json.Write(v)
	return s
}
