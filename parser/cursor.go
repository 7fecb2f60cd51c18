package parser

import (
	"geoprover/api"
	"geoprover/lexer"
)

// cursor is a position in a list of tokens, the last of which is the end. The methods that require something of the next tokens pass these tokens; at the first one that cannot stand there they return false, and leave its offset in at and its error in e.
type cursor struct {
	tokens []api.Token
	next   int
	at     int
	e      api.Errno
}

// token returns the next token.
func (c *cursor) token() api.Token { return c.tokens[c.next] }

// skip passes the next token if it has this text, and reports whether it has.
func (c *cursor) skip(text string) bool {
	found := c.token().Text == text
	if found {
		c.next++
	}
	return found
}

// expect passes a token with this text.
func (c *cursor) expect(text string) bool { return c.skip(text) || c.refuse() }

// name passes a name, and returns it.
func (c *cursor) name() (string, bool) {
	text := c.token().Text
	if !lexer.IsName(text) { // the end, a number, a sign or a keyword
		return "", c.refuse()
	}
	c.next++
	return text, true
}

// list passes n elements, separated by commas. read passes the element i.
func (c *cursor) list(n int, read func(i int) bool) bool {
	for i := range n {
		if i > 0 && !c.expect(",") || !read(i) {
			return false
		}
	}
	return true
}

// end requires that all tokens but the end were passed.
func (c *cursor) end() bool { return c.token().Kind == api.TkEnd || c.refuse() }

// refuse fails since the tokens cannot go on with the next one.
func (c *cursor) refuse() bool { return c.fail(c.token().Pos, api.ErrSyntax) }

// fail keeps the error e with its offset, and returns false.
func (c *cursor) fail(at int, e api.Errno) bool {
	c.at, c.e = at, e
	return false
}
