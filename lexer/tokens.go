package lexer

import (
	"strings"

	"geoprover/api"
)

// assign is the only sign of two bytes.
const assign = ":="

// next returns the token that begins at the offset at, where there is neither a blank nor a comment nor the end, or the error of this token.
func next(s string, at int) (api.Token, api.Errno) {
	switch kindOf(s[at]) {
	case letter:
		return name(s, at)
	case digit:
		return number(s, at)
	case sign:
		return token(api.TkSign, s, at, at+1), api.OK
	case colon:
		if strings.HasPrefix(s[at:], assign) {
			return token(api.TkSign, s, at, at+len(assign)), api.OK
		}
	}
	return api.Token{}, api.ErrSyntax
}

// name returns the TkName that begins at the offset at.
func name(s string, at int) (api.Token, api.Errno) {
	end := run(s, at, letter, digit)
	if end-at > api.MaxName {
		return api.Token{}, api.ErrLarge
	}
	return token(api.TkName, s, at, end), api.OK
}

// number returns the TkNumber that begins at the offset at.
func number(s string, at int) (api.Token, api.Errno) {
	end := run(s, at, digit)
	switch {
	case s[at] == '0' && end-at > 1:
		return api.Token{}, api.ErrSyntax
	case end-at > api.MaxDigits:
		return api.Token{}, api.ErrLarge
	}
	return token(api.TkNumber, s, at, end), api.OK
}

// token returns the token of this kind between two offsets.
func token(kind int, s string, pos, end int) api.Token {
	return api.Token{Kind: kind, Pos: pos, End: end, Text: s[pos:end]}
}
