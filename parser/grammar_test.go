package parser_test

import (
	"slices"
	"strings"

	"geoprover/api"
	"geoprover/ast"
	"geoprover/lexer"
)

// The grammar of the chapter as rules: symbols stand between spaces, alternatives between bars. P, L, C and G are the constructions of a sort, whose alternatives follow from the kinds; p, l and c are arguments, x that of on.
const grammar = `program = | statement program
statement = points names ; | NAME := P ; | line NAME := L ; | circle NAME := C ; | prove G ;
names = NAME | NAME , names
p = NAME | P
l = NAME | L
c = NAME | C
x = NAME | L | C
expression = NAME | P | L | C
quotient = numbers | - numbers
numbers = NUMBER | NUMBER / SECOND`

// symbol is a symbol of the grammar. depth is that of the construction or argument which begins with it, and 0 for symbols behind the first one.
type symbol struct {
	text  string
	depth int
}

// rules returns the alternatives for a symbol, nil if it stands for a token.
func rules(text string) [][]string {
	if sort := strings.Index("PLCG", text) + 1; sort > 0 {
		return constructions(sort)
	}
	for line := range strings.Lines(grammar) {
		left, right, _ := strings.Cut(strings.TrimSpace(line), " =")
		if left != text {
			continue
		}
		var l [][]string
		for alternative := range strings.SplitSeq(right, "|") {
			l = append(l, strings.Fields(alternative))
		}
		return l
	}
	return nil
}

// constructions returns the alternatives for the constructions of a sort.
func constructions(sort int) [][]string {
	var l [][]string
	for _, kind := range kindsOf(sort) {
		rule := []string{ast.Word(kind)}
		for i, param := range ast.Params(kind) {
			rule = append(rule, map[bool]string{true: "(", false: ","}[i == 0], "xplc"[param:param+1])
		}
		if hasRatio(kind) {
			rule = append(rule, ",", "quotient")
		}
		l = append(l, append(rule, ")"))
	}
	return l
}

// expand returns all lists of symbols for which the list stands that are empty or begin with a token.
func expand(list []symbol) [][]symbol {
	if len(list) == 0 || rules(list[0].text) == nil {
		return [][]symbol{list}
	}
	var l [][]symbol
	first := list[0]
	for _, rule := range rules(first.text) {
		var next []symbol
		for i, text := range rule {
			x := symbol{text: text}
			switch {
			case i == 0:
				x.depth = first.depth
			case strings.Contains("plcx", text): // an argument of the construction
				x.depth = first.depth + 1
			case strings.Contains("PLCG", text): // the construction of a statement
				x.depth = 1
			}
			next = append(next, x)
		}
		l = append(l, expand(append(next, list[1:]...))...)
	}
	return l
}

// matches reports whether a symbol stands for a token.
func matches(text string, token api.Token) bool {
	switch text {
	case "NAME":
		return lexer.IsName(token.Text)
	case "NUMBER", "SECOND":
		return token.Kind == api.TkNumber
	}
	return text == token.Text
}

// judge returns the offset and the error that s yields by the definitions of the chapter, as what the symbol stands for. It keeps all lists of symbols by which the tokens can go on.
func judge(s string, start symbol) (at int, e api.Errno) {
	tokens, at, e := lexer.All(s)
	if e != api.OK {
		return at, e
	}
	lists := [][]symbol{{start}}
	for _, token := range tokens {
		var next [][]symbol
		for _, list := range lists {
			for _, x := range expand(list) {
				switch {
				case token.Kind == api.TkEnd && len(x) == 0:
					return 0, api.OK
				case token.Kind == api.TkEnd || len(x) == 0 || !matches(x[0].text, token):
				case x[0].depth > 20:
					return token.Pos, api.ErrLarge
				case x[0].text == "SECOND" && token.Text == "0":
					return token.Pos, api.ErrZero
				default:
					next = append(next, x[1:])
				}
			}
		}
		if len(next) == 0 {
			return token.Pos, api.ErrSyntax
		}
		lists = slices.Clip(next)
	}
	panic("the last token is the end")
}
