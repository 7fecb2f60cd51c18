package parser_test

import (
	"strings"
	"testing"

	"geoprover/api"
	"geoprover/ast"
	"geoprover/lexer"
	"geoprover/parser"
)

// P17.2: names and constructions of each sort, with positions.
func TestExpr(t *testing.T) {
	expectExpr(t, "A", name(0, "A"))
	expectExpr(t, " \n# x\n  A1 # end", name(8, "A1"))
	expectExpr(t, "foot(A, l)", tree(0, api.ExFoot, name(5, "A"), name(8, "l")))
	expectExpr(t, "\tline(A,B)\n", tree(1, api.ExLine, name(6, "A"), name(8, "B")))
	expectExpr(t, "circum(A,B,C)", tree(0, api.ExCircum, name(7, "A"), name(9, "B"), name(11, "C")))
	expectExpr(t, "midpoint(A,B)", tree(0, api.ExMidpoint, name(9, "A"), name(11, "B")))
	expectExpr(t, "parallel(A,l)", tree(0, api.ExParallel, name(9, "A"), name(11, "l")))
	expectExpr(t, "perpendicular(A,l)", tree(0, api.ExPerpendicular, name(14, "A"), name(16, "l")))
	expectExpr(t, "divide(A,B,-0)", withRatio(tree(0, api.ExDivide, name(7, "A"), name(9, "B")), "0"))
	expectExpr(t, "on(circle(A,B))", tree(0, api.ExOn, tree(3, api.ExCircle, name(10, "A"), name(12, "B"))))
	expectExpr(t, strings.Repeat("z", api.MaxName), name(0, strings.Repeat("z", api.MaxName)))
}

// P17.2: errors.
func TestExprErrors(t *testing.T) {
	for _, x := range []wrong{
		{"", 0, api.ErrSyntax},
		{"  ", 2, api.ErrSyntax},
		{"# A", 3, api.ErrSyntax},
		{"1", 0, api.ErrSyntax},
		{"-", 0, api.ErrSyntax},
		{"(A)", 0, api.ErrSyntax},
		{"A B", 2, api.ErrSyntax},
		{"A;", 1, api.ErrSyntax},
		{"A,", 1, api.ErrSyntax},
		{"A(B)", 1, api.ErrSyntax},
		{"A := on(l)", 2, api.ErrSyntax},
		{"A := on(l);", 2, api.ErrSyntax},
		{"points A;", 0, api.ErrSyntax},
		{"prove same(A,B);", 0, api.ErrSyntax},
		{"line l := line(A,B);", 5, api.ErrSyntax},
		{"line", 4, api.ErrSyntax},
		{"foot", 4, api.ErrSyntax},
		{"foot(A, l", 9, api.ErrSyntax},
		{"foot(A, l))", 10, api.ErrSyntax},
		{"foot(A, l);", 10, api.ErrSyntax},
		{"foot(A, l) # x\ny", 15, api.ErrSyntax},
		{"foot(A l)", 7, api.ErrSyntax},
		{"foot(A)", 6, api.ErrSyntax},
		{"foot(A, 1)", 8, api.ErrSyntax},
		{"foot(A, circle(A, B))", 8, api.ErrSyntax},
		{"collinear(A,B,C)", 0, api.ErrSyntax},
		{"midpoint(A,B,C)", 12, api.ErrSyntax},
		{"parallel(line(A,B),l)", 9, api.ErrSyntax},
		{"divide(A,B)", 10, api.ErrSyntax},
		{"divide(A,B,1/0)", 13, api.ErrZero},
		{"divide(A,B,1/0", 13, api.ErrZero},
		{"divide(A,B,1/0) $", 16, api.ErrSyntax},
		{"A $", 2, api.ErrSyntax},
		{"A B 07", 4, api.ErrSyntax},
		{strings.Repeat("z", api.MaxName+1), 0, api.ErrLarge},
		{"A B " + strings.Repeat("z", api.MaxName+1), 4, api.ErrLarge},
		{"divide(A,B," + strings.Repeat("1", api.MaxDigits+1) + ")", 11, api.ErrLarge},
	} {
		expectExprError(t, x.s, x.at, x.e)
		if at, e := judge(x.s, symbol{"expression", 1}); at != x.at || e != x.e {
			t.Errorf("%s is judged as %d, %d", short(x.s), at, e)
		}
	}
}

// P17.2: each keyword by itself, and with arguments that are names.
func TestExprKeywords(t *testing.T) {
	for _, k := range lexer.Keywords() {
		var want int // the sort of the kind with this word that is not a goal
		for sort := api.SortPoint; sort <= api.SortCircle; sort++ {
			for _, kind := range kindsOf(sort) {
				if ast.Word(kind) == k {
					want = sort
				}
			}
		}
		if want == 0 {
			expectExprError(t, k, 0, api.ErrSyntax)
			expectExprError(t, k+"(A,B,C)", 0, api.ErrSyntax)
			continue
		}
		expectExprError(t, k, len(k), api.ErrSyntax)
		x, at, e := parser.Expr(k + "(A" + strings.Repeat(",A", len(ast.Params(ast.Kind(k)))-1) + map[bool]string{true: ",1)", false: ")"}[k == "divide"])
		if at != 0 || e != api.OK || ast.Word(x.Kind) != k || ast.Sort(x.Kind) != want {
			t.Errorf("%s with names yields %v, %d, %d", k, x, at, e)
		}
	}
}

// P17.2: the depth counts as in programs, from 1 on.
func TestExprDepth(t *testing.T) {
	s := strings.TrimSuffix(strings.TrimPrefix(deep(20), "A:="), ";")
	x, at, e := parser.Expr(s)
	if at != 0 || e != api.OK || ast.Depth(x) != 20 {
		t.Errorf("%s yields the depth %d, %d, %d", s, ast.Depth(x), at, e)
	}
	expectExprError(t, "apex("+s+",B)", 20*5, api.ErrLarge)
	expectExprError(t, "on(line("+s+",B))", 8+18*5, api.ErrLarge)
	expectExprError(t, "apex(B,"+s+")", 7+19*5, api.ErrLarge)
	expectExprError(t, strings.Repeat("apex(", 20)+"line", 20*5, api.ErrSyntax)
	expectExprError(t, strings.Repeat("apex(", 20)+"1", 20*5, api.ErrSyntax)
	expectExprError(t, strings.Repeat("apex(", 20), 20*5, api.ErrSyntax)
}

// P17.2: sources of the greatest length.
func TestExprMaxSource(t *testing.T) {
	s := strings.Repeat(" ", api.MaxSource-1)
	expectExpr(t, s+"A", name(api.MaxSource-1, "A"))
	expectExprError(t, s+"1", api.MaxSource-1, api.ErrSyntax)
	expectExprError(t, s+" ", api.MaxSource, api.ErrSyntax)
	expectExprError(t, s+"A ", 0, api.ErrLarge)
}

// P17.2: random expressions, with and without errors.
func TestRandomExprs(t *testing.T) {
	r, count := newSource(), map[api.Errno]int{}
	for range 2 * rounds {
		s, x, tokens := randomExpr(r, api.SortPoint+r.Intn(3), 1+r.Intn(5))
		expectExpr(t, s, x)
		s = join(r, damage(r, tokens))
		at, e := judge(s, symbol{"expression", 1})
		count[e]++
		if e != api.OK {
			expectExprError(t, s, at, e)
		} else if _, at, e = parser.Expr(s); at != 0 || e != api.OK {
			t.Fatalf("Expr(%q) returns %d, %d", s, at, e)
		}
	}
	if count[api.OK] < 20 || count[api.ErrSyntax] < rounds || count[api.ErrZero] < 2 {
		t.Errorf("the numbers of errors are %v", count)
	}
}
