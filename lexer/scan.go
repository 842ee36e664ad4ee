package lexer

import (
	"strings"

	"quittance/api"
	"quittance/throw"
)

// All of these are bytes below 0x80: a text is walked byte by byte, whatever it holds.
const (
	blanks = " \t\n"
	remark = "#"
	hyphen = "-"
	signs  = "{};"

	digits  = "0123456789"
	letters = "ABCDEFGHIJKLMNOPQRSTUVWXYZ" + "abcdefghijklmnopqrstuvwxyz"

	inWords   = letters + digits + hyphen
	inNumbers = digits + "." + hyphen + "/%"
)

// scan is the signs of s, and the end; or throws.
func scan(s string) []api.Token {
	var tokens []api.Token
	for at := pass(s, 0); at < len(s); {
		token := next(s, at)
		tokens = append(tokens, token)
		at = pass(s, at+len(token.Text))
	}
	return append(tokens, api.Token{Kind: api.TokEnd, At: len(s)})
}

// pass is the first place, from at on, that is not of a blank or a remark.
func pass(s string, at int) int {
	for {
		at += run(s[at:], blanks)
		if !begins(s[at:], remark) {
			return at
		}
		line, _, _ := strings.Cut(s[at:], "\n")
		at += len(line)
	}
}

// next is the sign that stands at that place, or throws ErrToken.
func next(s string, at int) api.Token {
	kind, size := measure(s[at:])
	throw.NeedAt(size > 0, api.ErrToken, at)
	// A copy: a piece of s would hold all of s for as long as one sign of it is kept.
	return api.Token{Kind: kind, At: at, Text: strings.Clone(s[at : at+size])}
}

// measure tells of which kind the sign is that s begins with, and how many bytes it has: none, if it
// begins with no sign.
func measure(s string) (kind, size int) {
	switch {
	case begins(s, letters):
		return api.TokWord, run(s, inWords)
	case begins(strings.TrimPrefix(s, hyphen), digits):
		return api.TokNumber, run(s, inNumbers)
	case begins(s, signs):
		return api.TokSign, 1
	}
	return api.TokEnd, 0
}

// begins tells whether the first byte of s is one of these.
func begins(s, these string) bool {
	return s != "" && strings.IndexByte(these, s[0]) >= 0
}

// run is how many bytes of s are of these, up to the first that is not.
func run(s, these string) int {
	return len(s) - len(strings.TrimLeft(s, these))
}
