package lexer

import (
	"slices"
	"strings"
)

// Kinds of bytes, by what a byte begins or continues.
const (
	stray  = iota // nothing, outside of comments
	blank         // a blank
	hash          // a comment
	letter        // a name
	digit         // a number, or a part of a name
	sign          // a sign of one byte
	colon         // the sign of two bytes
)

// kindOf returns the kind of the byte c.
func kindOf(c byte) int {
	switch {
	case c >= 'A' && c <= 'Z', c >= 'a' && c <= 'z':
		return letter
	case c >= '0' && c <= '9':
		return digit
	}
	switch c {
	case ' ', '\t', '\r', '\n':
		return blank
	case '#':
		return hash
	case '(', ')', ',', ';', '/', '-':
		return sign
	case ':':
		return colon
	}
	return stray
}

// run returns the offset behind the bytes of these kinds that follow one another from the offset at on.
func run(s string, at int, kinds ...int) int {
	for at < len(s) && slices.Contains(kinds, kindOf(s[at])) {
		at++
	}
	return at
}

// skip returns the offset behind the blanks and comments that follow one another from the offset at on.
func skip(s string, at int) int {
	for {
		at = run(s, at, blank)
		if at == len(s) || kindOf(s[at]) != hash {
			return at
		}
		at = lineEnd(s, at)
	}
}

// lineEnd returns the offset of the first line feed from the offset at on, or of the end.
func lineEnd(s string, at int) int {
	if n := strings.IndexByte(s[at:], '\n'); n >= 0 {
		return at + n
	}
	return len(s)
}
