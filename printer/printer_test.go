package printer_test

import (
	"strings"
	"testing"

	"geoprover/api"
	"geoprover/ast"
	"geoprover/parser"
	"geoprover/rational"
)

// P18.1: each kind of statements.
func TestProgram(t *testing.T) {
	expectProgram(t, "")
	expectProgram(t, "points A;\n", points("A"))
	expectProgram(t, "points A, B, A;\n", points("A B A"))
	expectProgram(t, "C := apex(A, B);\n", define(api.StPoint, "C", tree(api.ExApex, names("A B")...)))
	expectProgram(t, "line l := line(A, B);\n", define(api.StLine, "l", tree(api.ExLine, names("A B")...)))
	expectProgram(t, "circle c := circum(A, B, C);\n", define(api.StCircle, "c", tree(api.ExCircum, names("A B C")...)))
	expectProgram(t, "prove same(A, B);\n", prove(tree(api.ExIsSame, names("A B")...)))
	expectProgram(t, "points A, B;\nP := foot(A, line(B, A));\nprove parallel(l, m);\n",
		points("A B"),
		define(api.StPoint, "P", tree(api.ExFoot, name("A"), tree(api.ExLine, names("B A")...))),
		prove(tree(api.ExIsParallel, names("l m")...)))
}

// P18.1: programs that were parsed.
func TestParsedPrograms(t *testing.T) {
	for s, want := range map[string]string{
		"line  l:=parallel( A,m );":                              "line l := parallel(A, m);\n",
		"points A, B; C := apex(A,B); prove congruent(A,C,B,C);": "points A, B;\nC := apex(A, B);\nprove congruent(A, C, B, C);\n",
		"":             "",
		" # a comment": "",
		"D:=divide(A,B,-2/4);#x\nprove\tmidpoint(D,A,B) ;": "D := divide(A, B, -1/2);\nprove midpoint(D, A, B);\n",
		"P:=on(circle(A,B));circle c:=circle(P,A);":        "P := on(circle(A, B));\ncircle c := circle(P, A);\n",
	} {
		expectProgram(t, want, programOf(t, s).Stmts...)
	}
}

// P18.1, P18.2: positions are not examined, and empty slices are zero.
func TestPositions(t *testing.T) {
	x := api.Expr{Kind: api.ExOn, Pos: -7, Args: []api.Expr{{Kind: api.ExName, Name: "l", Pos: 1 << 40, Args: []api.Expr{}}}}
	expectExpr(t, "on(l)", x)
	expectProgram(t, "P := on(l);\npoints A;\n", api.Stmt{Kind: api.StPoint, Names: []string{"P"}, Expr: x, Pos: -1}, api.Stmt{Kind: api.StPoints, Names: []string{"A"}, Expr: api.Expr{Pos: 3, Args: []api.Expr{}}})
}

// P18.1: the errors of ast.CheckProgram.
func TestProgramErrors(t *testing.T) {
	on := tree(api.ExOn, name("l"))
	for _, x := range []struct {
		s api.Stmt
		e api.Errno
	}{
		{api.Stmt{}, api.ErrKind},
		{api.Stmt{Kind: 6, Names: []string{"A"}, Expr: on}, api.ErrKind},
		{define(api.StPoint, "P", name("A")), api.ErrKind},
		{define(api.StLine, "P", on), api.ErrKind},
		{define(api.StPoint, "P", tree(api.ExOn, tree(api.ExOn, name("l")))), api.ErrKind},
		{prove(on), api.ErrKind},
		{prove(name("A")), api.ErrKind},
		{points(""), api.ErrArg},
		{api.Stmt{Kind: api.StPoint, Expr: on}, api.ErrArg},
		{api.Stmt{Kind: api.StProve, Names: []string{"A"}, Expr: tree(api.ExIsSame, names("A B")...)}, api.ErrArg},
		{define(api.StPoints, "A", on), api.ErrArg},
		{define(api.StPoint, "P", tree(api.ExMidpoint, name("A"))), api.ErrArg},
		{define(api.StPoint, "P", tree(api.ExDivide, names("A B")...)), api.ErrArg},
		{define(api.StPoint, "P", withRatio(tree(api.ExDivide, names("A B")...), api.Rat{Num: api.Int{Abs: api.Nat{2}}, Den: api.Nat{4}})), api.ErrArg},
		{define(api.StPoint, "on", on), api.ErrName},
		{points("A B 1"), api.ErrName},
		{define(api.StPoint, "P", tree(api.ExOn, name("points"))), api.ErrName},
		{define(api.StPoint, "P", tower(api.MaxDepth+1)), api.ErrLarge},
	} {
		_, e := ast.CheckProgram(program(x.s))
		if e != x.e {
			t.Errorf("CheckProgram of %v is %d", x.s, e)
		}
		expectProgramError(t, x.e, x.s)
		expectProgramError(t, x.e, points("A"), x.s)
		expectProgramError(t, x.e, x.s, points("A"))
		expectProgramError(t, x.e, x.s, points("1"), api.Stmt{})
	}
}

// fill returns statements whose text has n bytes.
func fill(n int) []api.Stmt {
	l := []api.Stmt{points("A" + strings.Repeat("1", n%10))}
	for range n/10 - 1 {
		l = append(l, points("A")) // 10 bytes
	}
	return l
}

// P18.1: texts of the greatest length, and longer ones, in which the last byte that fits is one of each part of a statement.
func TestMaxProgram(t *testing.T) {
	for _, end := range []api.Stmt{
		points("A"), points("A BCD E"), define(api.StPoint, "Pq", tree(api.ExTurn, names("A B")...)), define(api.StLine, "l", tree(api.ExLine, names("A B")...)),
		define(api.StCircle, "c", tree(api.ExCircum, names("A B C")...)), prove(withRatio(tree(api.ExIsRatio, names("A B C D")...), number("-12/7"))),
		define(api.StPoint, "P", tree(api.ExMirror, name("P"), tree(api.ExBisector, names("A B")...))),
	} {
		size := len(programText(program(end)))
		for n := api.MaxSource - size - 2; n <= api.MaxSource; n++ {
			stmts := append(fill(n), end)
			want := programText(program(stmts...))
			if len(want) != n+size {
				t.Fatalf("the text has %d bytes", len(want))
			}
			if len(want) <= api.MaxSource {
				expectProgram(t, want, stmts...)
			} else {
				expectProgramError(t, api.ErrLarge, stmts...)
				expectProgramError(t, api.ErrLarge, append(stmts, points("A"))...)
			}
		}
	}
	expectProgramError(t, api.ErrLarge, points("A"+strings.Repeat(" A", api.MaxSource)))
}

// P18.1: the error of ast.CheckProgram comes before ErrLarge.
func TestOrderOfErrors(t *testing.T) {
	expectProgramError(t, api.ErrName, append(fill(api.MaxSource+10), points("1"))...)
	expectProgramError(t, api.ErrKind, points("A"+strings.Repeat(" A", api.MaxSource)), prove(name("A")))
	expectProgramError(t, api.ErrArg, append(fill(2*api.MaxSource), define(api.StPoint, "P", tree(api.ExOn)))...)
}

// P18.2: each kind of expressions.
func TestExpr(t *testing.T) {
	expectExpr(t, "A", name("A"))
	expectExpr(t, strings.Repeat("z", api.MaxName), name(strings.Repeat("z", api.MaxName)))
	expectExpr(t, "divide(A, B, -1/2)", withRatio(tree(api.ExDivide, names("A B")...), number("-1/2")))
	expectExpr(t, "ratio(A, B, C, D, 2)", withRatio(tree(api.ExIsRatio, names("A B C D")...), number("2")))
	expectExpr(t, "same(A, B)", tree(api.ExIsSame, names("A B")...))
	expectExpr(t, "on(line(A, B))", tree(api.ExOn, tree(api.ExLine, names("A B")...)))
	expectExpr(t, "meet(l, parallel(P, bisector(A, B)))", tree(api.ExMeet, name("l"), tree(api.ExParallel, name("P"), tree(api.ExBisector, names("A B")...))))
	for sort := api.SortPoint; sort <= api.SortGoal; sort++ {
		for _, kind := range kindsOf(sort) {
			n := len(ast.Params(kind))
			x, want := tree(kind, names("A B C D E F")[:n]...), ast.Word(kind)+"(A, B, C, D, E, F"[:1+3*n-2]
			if kind == api.ExDivide || kind == api.ExIsRatio {
				x, want = withRatio(x, number("0")), want+", 0"
			}
			expectExpr(t, want+")", x)
		}
	}
}

// P18.2: the text of a Ratio is that of rational.Text.
func TestRatios(t *testing.T) {
	most := strings.Repeat("9", api.MaxDigits)
	for _, s := range []string{"0", "1", "-1", "1/2", "-1/2", "65536", "-65537/65536", most, "-" + most + "/" + most[1:] + "8"} {
		expectExpr(t, "divide(A, B, "+s+")", withRatio(tree(api.ExDivide, names("A B")...), number(s)))
	}
	long := power(1234)
	expectExpr(t, "divide(A, B, "+rational.Text(long)+")", withRatio(tree(api.ExDivide, names("A B")...), long))
}

// P18.2: errors, also those of ast.Check.
func TestExprErrors(t *testing.T) {
	for _, x := range []struct {
		x api.Expr
		e api.Errno
	}{
		{api.Expr{}, api.ErrKind},
		{tree(2, names("A B")...), api.ErrKind},
		{tree(-1), api.ErrKind},
		{tree(25, names("A B")...), api.ErrKind},
		{tree(69, names("A B")...), api.ErrKind},
		{tree(9, tower(api.MaxDepth)), api.ErrKind},
		{api.Expr{Kind: 0, Name: "A"}, api.ErrKind},
		{name(""), api.ErrName},
		{name("on"), api.ErrName},
		{name("1"), api.ErrName},
		{name("a b"), api.ErrName},
		{name(strings.Repeat("z", api.MaxName+1)), api.ErrName},
		{api.Expr{Kind: api.ExName, Name: "A", Args: names("B")}, api.ErrArg},
		{api.Expr{Kind: api.ExName, Name: "A", Ratio: number("1")}, api.ErrArg},
		{tree(api.ExMidpoint, names("A")...), api.ErrArg},
		{tree(api.ExMidpoint, names("A B C")...), api.ErrArg},
		{tree(api.ExDivide, names("A B")...), api.ErrArg},
		{withRatio(tree(api.ExMidpoint, names("A B")...), number("1/2")), api.ErrArg},
		{api.Expr{Kind: api.ExOn, Name: "P", Args: names("l")}, api.ErrArg},
		{tree(api.ExOn, tree(api.ExMidpoint, names("A B")...)), api.ErrKind},
		{tree(api.ExFoot, name("A"), tree(api.ExCircle, names("A B")...)), api.ErrKind},
		{tree(api.ExFoot, name("A"), name("line")), api.ErrName},
		{tower(api.MaxDepth + 1), api.ErrLarge},
		{tree(api.ExIsSame, tower(api.MaxDepth), name("A")), api.ErrLarge},
		{tree(api.ExOn, tower(api.MaxDepth)), api.ErrLarge},
	} {
		expectExprError(t, x.e, x.x)
	}
	expectExpr(t, strings.Repeat("apex(", 19)+"B"+strings.Repeat(", C)", 19), tower(api.MaxDepth))
}

// P18.2: texts of the greatest length, and a byte longer.
func TestMaxExpr(t *testing.T) {
	const frame = "divide(A, B, )"
	long := power(api.MaxSource - len(frame) - 1)
	x := withRatio(tree(api.ExDivide, names("A B")...), long)
	expectExpr(t, "divide(A, B, "+rational.Text(long)+")", x)
	if n := len(exprText(x)); n != api.MaxSource {
		t.Errorf("the text has %d bytes", n)
	}
	expectExprError(t, api.ErrLarge, withRatio(x, rational.Neg(long)))
	x.Args[1].Name = "BB"
	expectExprError(t, api.ErrLarge, x)
	x.Args[1].Name = "1"
	expectExprError(t, api.ErrName, x)
}

// wide returns the midpoint of two wide points, and so on, with 2^(depth - 1) names.
func wide(depth int, s string) api.Expr {
	if depth == 1 {
		return name(s)
	}
	return tree(api.ExMidpoint, wide(depth-1, s), wide(depth-1, s))
}

// P18.2: many arguments, around the greatest length.
func TestWideExprs(t *testing.T) {
	for depth := 8; depth < 14; depth++ {
		for n := 1; n <= api.MaxName; n += 3 {
			x := wide(depth, strings.Repeat("x", n))
			if want := exprText(x); len(want) <= api.MaxSource {
				expectExpr(t, want, x)
			} else {
				expectExprError(t, api.ErrLarge, x)
			}
		}
	}
}

// P18.1, P18.2: random programs and expressions.
func TestRandom(t *testing.T) {
	r := newSource()
	for range rounds {
		p := randomProgram(r, 6)
		expectProgram(t, programText(p), p.Stmts...)
		x := randomExpr(r, 1+r.Intn(4), 2+r.Intn(4), false)
		expectExpr(t, exprText(x), x)
	}
}

// P18.2: the kinds of the expressions that the parser returns are kept.
func TestParsedExprs(t *testing.T) {
	for _, s := range []string{"A", "midpoint(A, B)", "parallel(A, l)", "perpendicular(A, line(B, C))", "divide(A, B, -7/3)", "on(circle(A, B))"} {
		x, _, e := parser.Expr(s)
		if e != api.OK {
			t.Fatalf("%s has the error %d", s, e)
		}
		expectExpr(t, s, x)
	}
}
