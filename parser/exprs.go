package parser

import (
	"slices"

	"geoprover/api"
	"geoprover/ast"
	"geoprover/lexer"
	"geoprover/rational"
)

// exprs reads expressions.
type exprs struct{ *cursor }

// construction reads a construction of one of the sorts, which is at this depth.
func (x exprs) construction(depth int, sorts []int) (api.Expr, bool) {
	first := x.token()
	kind := kindOf(first.Text, sorts)
	if kind == 0 {
		return api.Expr{}, x.refuse()
	}
	x.next++
	e, ok := api.Expr{Kind: kind, Pos: first.Pos}, x.expect("(")
	if ok {
		e.Args, ok = x.arguments(depth+1, ast.Params(kind))
	}
	if ok && hasRatio(kind) {
		e.Ratio, ok = x.ratio()
	}
	return e, ok && x.expect(")")
}

// arguments reads arguments for these parameters, which are at this depth.
func (x exprs) arguments(depth int, params []int) ([]api.Expr, bool) {
	l := make([]api.Expr, len(params))
	ok := x.list(len(l), func(i int) (ok bool) {
		l[i], ok = x.argument(depth, sortsOf(params[i]))
		return ok
	})
	return l, ok
}

// argument reads a name or a construction of one of the sorts, which is at this depth.
func (x exprs) argument(depth int, sorts []int) (api.Expr, bool) {
	first := x.token()
	isName := lexer.IsName(first.Text)
	switch {
	case !isName && kindOf(first.Text, sorts) == 0:
		return api.Expr{}, x.refuse()
	case depth > api.MaxDepth:
		return api.Expr{}, x.fail(first.Pos, api.ErrLarge)
	case isName:
		x.next++
		return api.Expr{Kind: api.ExName, Name: first.Text, Pos: first.Pos}, true
	}
	return x.construction(depth, sorts)
}

// ratio reads the ratio behind the last argument, with the comma before it.
func (x exprs) ratio() (api.Rat, bool) {
	if !x.expect(",") {
		return api.Rat{}, false
	}
	neg := x.skip("-")
	r, ok := x.number()
	if ok && x.skip("/") {
		r, ok = x.quotient(r)
	}
	if neg {
		r = rational.Neg(r)
	}
	return r, ok
}

// quotient reads the second number of a ratio, and returns the quotient of num and this number.
func (x exprs) quotient(num api.Rat) (api.Rat, bool) {
	at := x.token().Pos
	den, ok := x.number()
	if !ok {
		return api.Rat{}, false
	}
	r, e := rational.Div(num, den)
	return r, e == api.OK || x.fail(at, e)
}

// number reads a number.
func (x exprs) number() (api.Rat, bool) {
	t := x.token()
	if t.Kind != api.TkNumber {
		return api.Rat{}, x.refuse()
	}
	x.next++
	r, e := rational.Read(t.Text)
	return r, e == api.OK || x.fail(t.Pos, e)
}

// kindOf returns the kind of constructions with this word that is of one of the sorts, 0 if there is none.
func kindOf(word string, sorts []int) int {
	for kind := ast.Kind(word); kind != 0 && kind <= api.ExIsRatio; kind++ { // the least kind with this word is the first one
		if ast.Word(kind) == word && slices.Contains(sorts, ast.Sort(kind)) {
			return kind
		}
	}
	return 0
}

// sortsOf returns the sorts of the constructions that can stand for a parameter.
func sortsOf(param int) []int {
	if param == api.SortNone { // the parameter of on
		return []int{api.SortLine, api.SortCircle}
	}
	return []int{param}
}

// hasRatio reports whether constructions of a kind have a ratio.
func hasRatio(kind int) bool { return kind == api.ExDivide || kind == api.ExIsRatio }
