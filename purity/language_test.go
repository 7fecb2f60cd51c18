package purity_test

import (
	"strings"
	"testing"

	"geoprover/api"
	"geoprover/ast"
	"geoprover/lexer"
	"geoprover/lower"
	"geoprover/parser"
	"geoprover/printer"
	"geoprover/scope"
)

func TestLexer(t *testing.T) {
	s := samples{}
	s.add("", "# a", "A:=on(l); # b\n", "points A, B;\nC := divide(A, B, -1/2);", "a2 : b", "1 07", "midpoint", "A1", strings.Repeat("a", 21), strings.Repeat(" ", api.MaxSource+1))
	all := func(source string) ([]api.Token, api.Errno) { // without the offset, which belongs to the error
		l, _, e := lexer.All(source)
		return l, e
	}
	offset := func(source string) int {
		_, at, _ := lexer.All(source)
		return at
	}
	checkAll(t, s, all, offset, lexer.IsName, lexer.Keywords)
}

// trees returns expressions, some of which are not right.
func trees(t *testing.T) []api.Expr {
	t.Helper()
	a, b := api.Expr{Kind: api.ExName, Name: "A"}, api.Expr{Kind: api.ExName, Name: "B", Pos: 3}
	line := api.Expr{Kind: api.ExLine, Args: []api.Expr{b, a}, Pos: 9}
	return []api.Expr{
		{},
		a,
		line,
		{Kind: api.ExFoot, Args: []api.Expr{a, line}},
		{Kind: api.ExOn, Args: []api.Expr{{Kind: api.ExCircle, Args: []api.Expr{a, b}}}},
		{Kind: api.ExDivide, Args: []api.Expr{a, b}, Ratio: number(t, "-1/2")},
		{Kind: api.ExDivide, Args: []api.Expr{a, b}},
		{Kind: api.ExIsSame, Args: []api.Expr{a, b}},
		{Kind: api.ExIsMidpoint, Args: []api.Expr{a, b}, Ratio: number(t, "2")},
		{Kind: api.ExName, Name: "on", Args: []api.Expr{line}},
		{Kind: 77, Name: "X", Args: []api.Expr{a, b, a}},
	}
}

func TestAst(t *testing.T) {
	s := samples{}
	s.add("", "on", "midpoint", "parallel", "X")
	for kind := -1; kind < 70; kind++ {
		s.add(kind)
	}
	stmts := []api.Stmt{{Kind: api.StPoints, Names: []string{"A", "B"}}, {}}
	for _, e := range trees(t) {
		s.add(e)
		stmts = append(stmts, api.Stmt{Kind: api.StPoint, Names: []string{"M"}, Expr: e}, api.Stmt{Kind: api.StProve, Expr: e})
	}
	s.add(api.Program{}, api.Program{Stmts: stmts})
	for _, x := range stmts {
		s.add(api.Program{Stmts: []api.Stmt{stmts[0], x}})
	}
	program := func(p api.Program) []int {
		at, e := ast.CheckProgram(p)
		return []int{at, int(e)}
	}
	checkAll(t, s, ast.Sort, ast.Params, ast.Word, ast.Kind, ast.Check, program, ast.Equal, ast.EqualExpr, ast.Names, ast.Depth, ast.Size)
}

// sources returns sources of the construction language, some of which are not right.
func sources() []any {
	return []any{
		"", "# a", "points A, B;", "points A, B;\nC := divide(A, B, -2/4);\nline l := line(A, C); prove ratio(A, B, A, C, 4);", "P := on(circle(A, B)); prove same(A, P);",
		"A", "foot(A, line(B, C))", "divide(A, B, -0)", "divide(A, B, 1/0)", "points A, line;", "prove line(A, B);", "C := divide(A, B, 1/0);", "same(A, C)", "$",
		"collinear(A, B, A)", "angle(A, B, A, B, A, B)", "angle(A, B, A, B, A, B, A, B)", "ratio(A, B, A, B, -2/4)", "ratio(A, B, A, B, 1/0)", strings.Repeat(" ", api.MaxSource+1),
	}
}

func TestParser(t *testing.T) {
	s := samples{}
	s.add(sources()...)
	s.add([]string(nil), []string{"A", "B"}, []string{"B", "A", "C", "A"})
	program := func(source string) (api.Program, api.Errno) { // without the offset, which belongs to the error
		p, _, e := parser.Program(source)
		return p, e
	}
	expr := func(source string) (api.Expr, api.Errno) {
		x, _, e := parser.Expr(source)
		return x, e
	}
	fact := func(source string, names []string) (api.Fact, api.Errno) {
		f, _, e := parser.Fact(source, names)
		return f, e
	}
	offsets := func(source string, names []string) []int {
		_, first, _ := parser.Program(source)
		_, second, _ := parser.Expr(source)
		_, third, _ := parser.Fact(source, names)
		return []int{first, second, third}
	}
	checkAll(t, s, program, expr, fact, offsets)
}

func TestPrinter(t *testing.T) {
	s := samples{}
	for _, e := range trees(t) {
		s.add(e)
		s.add(api.Program{Stmts: []api.Stmt{{Kind: api.StPoints, Names: []string{"A", "B"}}, {Kind: api.StPoint, Names: []string{"M"}, Expr: e}}})
		s.add(api.Program{Stmts: []api.Stmt{{Kind: api.StProve, Expr: e}}})
	}
	s.add(api.Program{})
	checkAll(t, s, printer.Program, printer.Expr)
}

// programs returns programs with constructions of all sorts. Some of them are not right, and the figures of some are too large.
func programs(t *testing.T) []api.Program {
	t.Helper()
	l := []api.Program{{}, {Stmts: []api.Stmt{{Kind: api.StPoints, Names: []string{"A", "B"}}, {}, {Kind: api.StProve, Names: []string{"A"}, Expr: trees(t)[9]}}}}
	for _, source := range []string{
		"points A, B, C;",
		"points A, B; prove same(A, X); points A, A;",
		"points A, B, C; line l := bisector(A, midpoint(B, C)); circle c := circum(A, B, C); D := on(c); E := divide(D, on(l), -2/3); prove ratio(A, E, B, D, 7/2); prove angle(A, B, C, B, A, turn(A, D));",
		"points A, B, C; line l := parallel(A, line(B, C)); line m := perpendicular(reflect(A, B), l); D := meet(l, m); prove parallel(l, m); prove collinear(A, B, C);",
		"points A, B; " + strings.Repeat("prove same(A, B);", api.MaxGoals+1),
		"points A, B; C := " + strings.Repeat("apex(", 8) + "A" + strings.Repeat(", midpoint(A, apex(A, midpoint(B, apex(A, B)))))", 8) + ";",
	} {
		p, at, e := parser.Program(source)
		if e != api.OK {
			t.Fatalf("the program %q has the error %d at %d", source, e, at)
		}
		l = append(l, p)
	}
	return l
}

func TestScope(t *testing.T) {
	s := samples{}
	for _, p := range programs(t) {
		s.add(p)
	}
	s.add("", "A", "B", "l", "E", "X", "on", "1")
	for sort := -1; sort < 6; sort++ {
		s.add(sort)
	}
	program := func(p api.Program) []int {
		at, e := scope.Check(p)
		return []int{at, int(e)}
	}
	checkAll(t, s, program, scope.Defined, scope.Uses, scope.Unused, scope.Depends, scope.Rename)
}

func TestLower(t *testing.T) {
	s := samples{}
	figure := func(p api.Program) (api.Figure, api.Errno) { // without the index, which belongs to the error
		f, _, e := lower.Figure(p)
		return f, e
	}
	for _, p := range programs(t) {
		s.add(p)
		f, _ := figure(p)
		s.add(f)
	}
	s.add(api.Figure{Steps: []api.Step{{Kind: 77, Args: []int{3, -1}, Ratio: number(t, "1/2")}, {Point: "A", Args: []int{1, 0}}}, Goals: []api.Fact{{Args: []int{0, 9}, Ratio: number(t, "2")}}})
	s.add("", "A", "$3", "X", []int(nil), []int{1, 0, 1}, []int{4, 9, -1})
	for i := -1; i < 16; i++ {
		s.add(i)
	}
	at := func(p api.Program) int {
		_, at, _ := lower.Figure(p)
		return at
	}
	checkAll(t, s, lower.Arity, lower.Right, figure, at, lower.Names, lower.Find, lower.Needs, lower.Prune)
}
