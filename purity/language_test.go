package purity_test

import (
	"strings"
	"testing"

	"geoprover/api"
	"geoprover/ast"
	"geoprover/lexer"
)

func TestLexer(t *testing.T) {
	s := samples{}
	s.add("", "# a", "A:=on(l); # b\n", "points A, B;\nC := divide(A, B, -1/2);", "a2 : b", "1 07", "midpoint", "A1", strings.Repeat("a", 21), strings.Repeat(" ", api.MaxSource+1))
	all := func(source string) ([]api.Token, api.Errno) { // without the offset, which belongs to the error
		l, _, e := lexer.All(source)
		return l, e
	}
	offset := func(source string) int {
		_, at, _ := lexer.All(source)
		return at
	}
	checkAll(t, s, all, offset, lexer.IsName, lexer.Keywords)
}

// trees returns expressions, some of which are not right.
func trees(t *testing.T) []api.Expr {
	t.Helper()
	a, b := api.Expr{Kind: api.ExName, Name: "A"}, api.Expr{Kind: api.ExName, Name: "B", Pos: 3}
	line := api.Expr{Kind: api.ExLine, Args: []api.Expr{b, a}, Pos: 9}
	return []api.Expr{
		{},
		a,
		line,
		{Kind: api.ExFoot, Args: []api.Expr{a, line}},
		{Kind: api.ExOn, Args: []api.Expr{{Kind: api.ExCircle, Args: []api.Expr{a, b}}}},
		{Kind: api.ExDivide, Args: []api.Expr{a, b}, Ratio: number(t, "-1/2")},
		{Kind: api.ExDivide, Args: []api.Expr{a, b}},
		{Kind: api.ExIsSame, Args: []api.Expr{a, b}},
		{Kind: api.ExIsMidpoint, Args: []api.Expr{a, b}, Ratio: number(t, "2")},
		{Kind: api.ExName, Name: "on", Args: []api.Expr{line}},
		{Kind: 77, Name: "X", Args: []api.Expr{a, b, a}},
	}
}

func TestAst(t *testing.T) {
	s := samples{}
	s.add("", "on", "midpoint", "parallel", "X")
	for kind := -1; kind < 70; kind++ {
		s.add(kind)
	}
	stmts := []api.Stmt{{Kind: api.StPoints, Names: []string{"A", "B"}}, {}}
	for _, e := range trees(t) {
		s.add(e)
		stmts = append(stmts, api.Stmt{Kind: api.StPoint, Names: []string{"M"}, Expr: e}, api.Stmt{Kind: api.StProve, Expr: e})
	}
	s.add(api.Program{}, api.Program{Stmts: stmts})
	for _, x := range stmts {
		s.add(api.Program{Stmts: []api.Stmt{stmts[0], x}})
	}
	program := func(p api.Program) []int {
		at, e := ast.CheckProgram(p)
		return []int{at, int(e)}
	}
	checkAll(t, s, ast.Sort, ast.Params, ast.Word, ast.Kind, ast.Check, program, ast.Equal, ast.EqualExpr, ast.Names, ast.Depth, ast.Size)
}
