package lexer_test

import (
	"math/rand"
	"regexp"
	"slices"
	"strconv"
	"strings"
	"testing"

	"geoprover/api"
	"geoprover/lexer"
)

// rounds is the number of pseudo-random cases of a test.
const rounds = 400

// newSource returns a generator with a fixed seed, so that each run tests the same sources.
func newSource() *rand.Rand { return rand.New(rand.NewSource(15)) }

// expectTokens fails unless All accepts s and returns the tokens want.
func expectTokens(t *testing.T, s string, want []api.Token) {
	t.Helper()
	l, at, e := lexer.All(s)
	if !slices.Equal(l, want) || at != 0 || e != api.OK {
		t.Fatalf("All(%s) returns %v, %d, %d, want %v", short(s), l, at, e, want)
	}
}

// expectTexts fails unless All accepts s and returns tokens with the kinds and texts in want, which stand between spaces, and the end. A kind is written as a digit before the text.
func expectTexts(t *testing.T, s, want string) {
	t.Helper()
	l, at, e := lexer.All(s)
	if got := show(l); got != strings.Trim(want+" 0", " ") || at != 0 || e != api.OK {
		t.Errorf("All(%s) returns %q, %d, %d, want %q", short(s), got, at, e, want)
	}
}

// expectError fails unless All returns the error e and the offset at for s.
func expectError(t *testing.T, s string, at int, e api.Errno) {
	t.Helper()
	l, gotAt, gotE := lexer.All(s)
	if len(l) > 0 || gotAt != at || gotE != e {
		t.Fatalf("All(%s) returns %d tokens, %d, %d, want the offset %d and the error %d", short(s), len(l), gotAt, gotE, at, e)
	}
}

// tokensOf returns the tokens of s, which All has to accept.
func tokensOf(t *testing.T, s string) []api.Token {
	t.Helper()
	l, at, e := lexer.All(s)
	if at != 0 || e != api.OK {
		t.Fatalf("All(%s) returns %d, %d", short(s), at, e)
	}
	return l
}

// show returns the kinds and texts of tokens, with spaces between them.
func show(l []api.Token) string {
	var words []string
	for _, k := range l {
		words = append(words, strconv.Itoa(k.Kind)+k.Text)
	}
	return strings.Join(words, " ")
}

// short returns s in quotes, without its middle if it is long.
func short(s string) string {
	if len(s) > 80 {
		s = s[:40] + ".." + s[len(s)-40:]
	}
	return strconv.Quote(s)
}

// grammar is what the chapter says of tokens, blanks and comments as regular expressions.
type grammar struct{ name, number, sign, skipped *regexp.Regexp }

// newGrammar returns the grammar of the chapter.
func newGrammar() grammar {
	return grammar{
		name:    regexp.MustCompile(`^[A-Za-z][A-Za-z0-9]*`),
		number:  regexp.MustCompile(`^[0-9]+`),
		sign:    regexp.MustCompile(`^(:=|[(),;/-])`),
		skipped: regexp.MustCompile(`^([ \t\r\n]|#[^\n]*)+`),
	}
}

// all returns what All has to return for s.
func (g grammar) all(s string) (l []api.Token, at int, e api.Errno) {
	if len(s) > api.MaxSource {
		return nil, 0, api.ErrLarge
	}
	for at < len(s) {
		if n := len(g.skipped.FindString(s[at:])); n > 0 {
			at += n
			continue
		}
		kind, text := api.TkName, g.name.FindString(s[at:])
		if text == "" {
			kind, text = api.TkNumber, g.number.FindString(s[at:])
		}
		if text == "" {
			kind, text = api.TkSign, g.sign.FindString(s[at:])
		}
		if e := errorOf(kind, text); e != api.OK {
			return nil, at, e
		}
		l = append(l, api.Token{Kind: kind, Pos: at, End: at + len(text), Text: text})
		at += len(text)
	}
	return append(l, api.Token{Pos: at, End: at}), 0, api.OK
}

// errorOf returns the error of a token of this kind with this text, which is empty if no token begins.
func errorOf(kind int, text string) api.Errno {
	switch {
	case text == "", kind == api.TkNumber && text[0] == '0' && text != "0":
		return api.ErrSyntax
	case kind == api.TkName && len(text) > 20, kind == api.TkNumber && len(text) > 1000:
		return api.ErrLarge
	}
	return api.OK
}

// randomSource returns a source of at most n parts: mostly tokens, blanks and comments, with some that are none if wrong is true.
func randomSource(r *rand.Rand, n int, wrong bool) string {
	var s strings.Builder
	for range r.Intn(n + 1) {
		if wrong && r.Intn(12) == 0 {
			s.WriteString(pick(r, "$", ":", "=", "07", "_", "é", "\x00", "\v", "\xff", "abcdefghijklmnopqrstuvwxyz", ".", ": ="))
			continue
		}
		s.WriteString(pick(r, "(", ")", ",", ";", "/", "-", ":=", "A", "l1", "on", "points", "x9Y", "0", "10", "987", " ", " ", "\t", "\r\n", "\n", "# a := $ 07\n"))
		s.WriteString(pick(r, "", "", " ")) // so that names and numbers do not all join
	}
	return s.String()
}

// rightSource returns a random source that All accepts.
func rightSource(r *rand.Rand, n int) string {
	for {
		s := randomSource(r, n, false)
		if _, _, e := lexer.All(s); e == api.OK {
			return s
		}
	}
}

// pick returns one of the strings.
func pick(r *rand.Rand, l ...string) string { return l[r.Intn(len(l))] }
