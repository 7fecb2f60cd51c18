package parser_test

import (
	"slices"
	"strings"
	"testing"

	"geoprover/api"
	"geoprover/ast"
	"geoprover/lexer"
	"geoprover/parser"
	"geoprover/rational"
)

// P17.1: the empty source, blanks and comments.
func TestEmptyProgram(t *testing.T) {
	for _, s := range []string{"", " ", "\n", "\t\r\n ", "#", "# a comment", "# a\n\n# points A;\n", " # $ 07 \xff"} {
		expectProgram(t, s)
	}
}

// P17.1: each kind of statements, with positions.
func TestStatements(t *testing.T) {
	expectProgram(t, "A := midpoint(B, C);", define(0, api.StPoint, "A", tree(5, api.ExMidpoint, name(14, "B"), name(17, "C"))))
	expectProgram(t, "points A;", points(0, "A"))
	expectProgram(t, " points A, B,A ;", points(1, "A B A"))
	expectProgram(t, "line l := line(A, B);", define(0, api.StLine, "l", tree(10, api.ExLine, name(15, "A"), name(18, "B"))))
	expectProgram(t, "\ncircle c := circle(O, P);", define(1, api.StCircle, "c", tree(13, api.ExCircle, name(20, "O"), name(23, "P"))))
	expectProgram(t, "prove same(A, B);", prove(0, tree(6, api.ExIsSame, name(11, "A"), name(14, "B"))))
	expectProgram(t, "P:=foot(A,line(B,A));", define(0, api.StPoint, "P", tree(3, api.ExFoot, name(8, "A"), tree(10, api.ExLine, name(15, "B"), name(17, "A")))))
	expectProgram(t, "points A;points B; # c ; \nprove same(A,B);",
		points(0, "A"), points(9, "B"), prove(26, tree(32, api.ExIsSame, name(37, "A"), name(39, "B"))))
}

// P17.1: what names stand for is not examined (19).
func TestUndefinedNames(t *testing.T) {
	expectProgram(t, "A:=apex(A,l);", define(0, api.StPoint, "A", tree(3, api.ExApex, name(8, "A"), name(10, "l"))))
	expectProgram(t, "points A,A;", points(0, "A A"))
}

// startOf returns the begin of a statement with a construction of the sort.
func startOf(sort int) string { return []string{"X:=", "line X:=", "circle X:=", "prove "}[sort-1] }

// P17.1: each kind of constructions, in a statement of its sort.
func TestConstructions(t *testing.T) {
	for sort := api.SortPoint; sort <= api.SortGoal; sort++ {
		for _, kind := range kindsOf(sort) {
			s := startOf(sort) + ast.Word(kind)
			e := tree(len(startOf(sort)), kind)
			for i := range ast.Params(kind) {
				s += map[bool]string{true: "(", false: ","}[i == 0]
				e.Args = append(e.Args, name(len(s), "ABCDEF"[i:i+1]))
				s += "ABCDEF"[i : i+1]
			}
			if hasRatio(kind) {
				s += ",2/4"
				e.Ratio = number("1/2")
			}
			stmt := define(0, sort+1, "X", e)
			if sort == api.SortGoal {
				stmt = prove(0, e)
			}
			expectProgram(t, s+");", stmt)
			for _, end := range []string{",X);", ",1);", ";", "(X);", ""} {
				expectProgramError(t, s+end, len(s), api.ErrSyntax)
			}
		}
	}
}

// P17.1: the word of each kind, where a construction of another sort is required.
func TestOtherSorts(t *testing.T) {
	for sort := api.SortPoint; sort <= api.SortGoal; sort++ {
		for _, kind := range kindsOf(sort) {
			for other := api.SortPoint; other <= api.SortGoal; other++ {
				sameWord := func(k int) bool { return ast.Word(k) == ast.Word(kind) }
				if !slices.ContainsFunc(kindsOf(other), sameWord) {
					expectProgramError(t, startOf(other)+ast.Word(kind)+"(A,B);", len(startOf(other)), api.ErrSyntax)
				}
			}
		}
	}
}

// P17.1: words of two sorts.
func TestWordsOfTwoSorts(t *testing.T) {
	a, b := name(15, "A"), name(18, "B")
	expectProgram(t, "prove midpoint(A, B, C);", prove(0, tree(6, api.ExIsMidpoint, a, b, name(21, "C"))))
	expectProgram(t, "PPPP:=midpoint(A, B);", define(0, api.StPoint, "PPPP", tree(6, api.ExMidpoint, a, b)))
	expectProgram(t, "prove parallel(A, B);", prove(0, tree(6, api.ExIsParallel, a, b)))
	expectProgram(t, "prove parallel(line(A, B), l);", prove(0, tree(6, api.ExIsParallel, tree(15, api.ExLine, name(20, "A"), name(23, "B")), name(27, "l"))))
	expectProgram(t, "line m := parallel(A, l);", define(0, api.StLine, "m", tree(10, api.ExParallel, name(19, "A"), name(22, "l"))))
	expectProgram(t, "line m := perpendicular(A, l);", define(0, api.StLine, "m", tree(10, api.ExPerpendicular, name(24, "A"), name(27, "l"))))
	expectProgram(t, "prove perpendicular(m, perpendicular(A, l));", prove(0, tree(6, api.ExIsPerpendicular, name(20, "m"), tree(23, api.ExPerpendicular, name(37, "A"), name(40, "l")))))
	expectProgram(t, "prove parallel(parallel(A,l),l);", prove(0, tree(6, api.ExIsParallel, tree(15, api.ExParallel, name(24, "A"), name(26, "l")), name(29, "l"))))
	for _, x := range []wrong{
		{"prove midpoint(A, B);", 19, api.ErrSyntax},
		{"P := midpoint(A, B, C);", 18, api.ErrSyntax},
		{"P := parallel(A, l);", 5, api.ErrSyntax},
		{"circle c := parallel(A, l);", 12, api.ErrSyntax},
		{"line m := midpoint(A, B);", 10, api.ErrSyntax},
		{"line m := parallel(line(A, B), l);", 19, api.ErrSyntax},
		{"prove parallel(midpoint(A, B), l);", 15, api.ErrSyntax},
	} {
		expectProgramError(t, x.s, x.at, x.e)
	}
}

// P17.1: the argument of on is a name, a line or a circle.
func TestOn(t *testing.T) {
	expectProgram(t, "P := on(x);", define(0, api.StPoint, "P", tree(5, api.ExOn, name(8, "x"))))
	expectProgram(t, "P := on(line(A,B));", define(0, api.StPoint, "P", tree(5, api.ExOn, tree(8, api.ExLine, name(13, "A"), name(15, "B")))))
	expectProgram(t, "P := on(perpendicular(A,l));", define(0, api.StPoint, "P", tree(5, api.ExOn, tree(8, api.ExPerpendicular, name(22, "A"), name(24, "l")))))
	expectProgram(t, "P := on(circum(A,B,C));", define(0, api.StPoint, "P", tree(5, api.ExOn, tree(8, api.ExCircum, name(15, "A"), name(17, "B"), name(19, "C")))))
	for _, s := range []string{"P := on(midpoint(A, B));", "P := on(on(l));", "P := on(same(A, B));", "P := on();", "P := on(1);", "P := on(points);", "P := on(,);", "P := on("} {
		expectProgramError(t, s, 8, api.ErrSyntax)
	}
	expectProgramError(t, "P := on(l, m);", 9, api.ErrSyntax)
}

// P17.1: the first token that cannot follow, in each part of the statements.
func TestProgramErrors(t *testing.T) {
	for _, x := range []wrong{
		{"prove line(A, B);", 6, api.ErrSyntax},
		{"points A, line;", 10, api.ErrSyntax},
		{"points A B;", 9, api.ErrSyntax},
		{"points A", 8, api.ErrSyntax},
		{"points A # end", 14, api.ErrSyntax},
		{"points", 6, api.ErrSyntax},
		{"points ;", 7, api.ErrSyntax},
		{"points A,;", 9, api.ErrSyntax},
		{"points A;;", 9, api.ErrSyntax},
		{"points A,,B;", 9, api.ErrSyntax},
		{"points points;", 7, api.ErrSyntax},
		{"points 1;", 7, api.ErrSyntax},
		{"points A := on(l);", 9, api.ErrSyntax},
		{";", 0, api.ErrSyntax},
		{"(", 0, api.ErrSyntax},
		{"7", 0, api.ErrSyntax},
		{"-", 0, api.ErrSyntax},
		{":=", 0, api.ErrSyntax},
		{"on := midpoint(A, B);", 0, api.ErrSyntax},
		{"midpoint(A, B);", 0, api.ErrSyntax},
		{"same(A, B);", 0, api.ErrSyntax},
		{"A", 1, api.ErrSyntax},
		{"A;", 1, api.ErrSyntax},
		{"A, B := on(l);", 1, api.ErrSyntax},
		{"A := ", 5, api.ErrSyntax},
		{"A := B;", 5, api.ErrSyntax},
		{"A := 1;", 5, api.ErrSyntax},
		{"A := (B);", 5, api.ErrSyntax},
		{"A := points;", 5, api.ErrSyntax},
		{"A := foo(B);", 5, api.ErrSyntax},
		{"A := Midpoint(B, C);", 5, api.ErrSyntax},
		{"A := midpoint", 13, api.ErrSyntax},
		{"A := midpoint B, C;", 14, api.ErrSyntax},
		{"A := midpoint(", 14, api.ErrSyntax},
		{"A := midpoint();", 14, api.ErrSyntax},
		{"A := midpoint(B);", 15, api.ErrSyntax},
		{"A := midpoint(B C);", 16, api.ErrSyntax},
		{"A := midpoint(B,);", 16, api.ErrSyntax},
		{"A := midpoint(B,C,);", 17, api.ErrSyntax},
		{"A := midpoint(B,C", 17, api.ErrSyntax},
		{"A := midpoint(B,C)", 18, api.ErrSyntax},
		{"A := midpoint(B,C) B := on(l);", 19, api.ErrSyntax},
		{"A := midpoint(B,C));", 18, api.ErrSyntax},
		{"A := midpoint((B),C);", 14, api.ErrSyntax},
		{"A := midpoint(B(C),C);", 15, api.ErrSyntax},
		{"A := midpoint(B,line(C,D));", 16, api.ErrSyntax},
		{"A := foot(line(C,D),B);", 10, api.ErrSyntax},
		{"A := foot(B,circle(C,D));", 12, api.ErrSyntax},
		{"A := cut(circle(C,D),l);", 9, api.ErrSyntax},
		{"A := cut(l,line(C,D));", 11, api.ErrSyntax},
		{"A := apex(B,same(C,D));", 12, api.ErrSyntax},
		{"line := line(A,B);", 5, api.ErrSyntax},
		{"line line := line(A,B);", 5, api.ErrSyntax},
		{"line l line(A,B);", 7, api.ErrSyntax},
		{"line l := m;", 10, api.ErrSyntax},
		{"line l := circle(A,B);", 10, api.ErrSyntax},
		{"line l, m := line(A,B);", 6, api.ErrSyntax},
		{"circle c := line(A,B);", 12, api.ErrSyntax},
		{"circle c := c;", 12, api.ErrSyntax},
		{"circle circle := circle(A,B);", 7, api.ErrSyntax},
		{"prove;", 5, api.ErrSyntax},
		{"prove", 5, api.ErrSyntax},
		{"prove A;", 6, api.ErrSyntax},
		{"prove A := same(A,B);", 6, api.ErrSyntax},
		{"prove prove same(A,B);", 6, api.ErrSyntax},
		{"prove same(A,same(A,B));", 13, api.ErrSyntax},
		{"prove same(A,B), same(A,C);", 15, api.ErrSyntax},
		{"points A; points B; x", 21, api.ErrSyntax},
		{"points A; points B; prove same(A,);", 33, api.ErrSyntax},
	} {
		expectProgramError(t, x.s, x.at, x.e)
	}
}

// P17.1: keywords where a name is required, and names where a word is required.
func TestKeywordsAndNames(t *testing.T) {
	for _, k := range lexer.Keywords() {
		expectProgramError(t, "points "+k+";", 7, api.ErrSyntax)
		expectProgramError(t, "line "+k+" := line(A,B);", 5, api.ErrSyntax)
		expectProgramError(t, "circle "+k+" := circle(A,B);", 7, api.ErrSyntax)
		if !slices.Contains([]string{"points", "line", "circle", "prove"}, k) {
			expectProgramError(t, k+" := on(l);", 0, api.ErrSyntax)
		}
		expectProgram(t, "points "+k+"s;", points(0, k+"s"))
		expectProgramError(t, "prove "+k+"s(A,B);", 6, api.ErrSyntax)
		expectProgramError(t, "X := "+k+"s(A,B);", 5, api.ErrSyntax)
		expectProgramError(t, "X := apex(A,"+k+"s(A,B));", 13+len(k), api.ErrSyntax)
	}
}

// P17.1: ratios.
func TestRatios(t *testing.T) {
	most, e := strings.Repeat("9", api.MaxDigits), tree(3, api.ExDivide, name(10, "A"), name(12, "B"))
	for s, want := range map[string]string{
		"1": "1", "0": "0", "-0": "0", "- 0/7": "0", "0/1": "0", "2/4": "1/2", "-2/4": "-1/2", "- 2 / 4": "-1/2", "10": "10", "-7": "-7",
		"-3/1": "-3", "12/3": "4", "65537/65536": "65537/65536", most: most, "-1/" + most: "-1/" + most, most + "/" + most: "1",
	} {
		expectProgram(t, "D:=divide(A,B,"+s+");", define(0, api.StPoint, "D", withRatio(e, want)))
	}
	expectProgram(t, "prove ratio(A, B, C, D, -2/6);", prove(0, withRatio(tree(6, api.ExIsRatio, name(12, "A"), name(15, "B"), name(18, "C"), name(21, "D")), "-1/3")))
	expectProgram(t, "D := divide(A, B, -2/4);", define(0, api.StPoint, "D", withRatio(tree(5, api.ExDivide, name(12, "A"), name(15, "B")), "-1/2")))
}

// P17.1: a -0 is the valid number 0.
func TestZeroRatio(t *testing.T) {
	for _, s := range []string{"-0", "0", "-0/5", "0/65536"} {
		x, _, e := parser.Expr("divide(A,B," + s + ")")
		if e != api.OK || !rational.Right(x.Ratio) || rational.Sign(x.Ratio) != 0 {
			t.Errorf("%s yields %v, %d", s, x.Ratio, e)
		}
	}
}

// P17.1: errors of ratios.
func TestRatioErrors(t *testing.T) {
	for _, x := range []wrong{
		{"D := divide(A, B, 1/0);", 20, api.ErrZero},
		{"D := divide(A, B, 0/0);", 20, api.ErrZero},
		{"D := divide(A, B, -1 / 0);", 23, api.ErrZero},
		{"D := divide(A, B, 1/0;", 20, api.ErrZero},
		{"D := divide(A, B, 1/0", 20, api.ErrZero},
		{"D := divide(A, B, 1/0); D := 7", 20, api.ErrZero},
		{"prove ratio(A, B, C, D, 2/0);", 26, api.ErrZero},
		{"D := divide(A, B);", 16, api.ErrSyntax},
		{"D := divide(A, B,);", 17, api.ErrSyntax},
		{"D := divide(A, B, );", 18, api.ErrSyntax},
		{"D := divide(A, 1);", 15, api.ErrSyntax},
		{"D := divide(A, B, C);", 18, api.ErrSyntax},
		{"D := divide(A, B, --1);", 19, api.ErrSyntax},
		{"D := divide(A, B, -);", 19, api.ErrSyntax},
		{"D := divide(A, B, -C);", 19, api.ErrSyntax},
		{"D := divide(A, B, /2);", 18, api.ErrSyntax},
		{"D := divide(A, B, 1/);", 20, api.ErrSyntax},
		{"D := divide(A, B, 1/-2);", 20, api.ErrSyntax},
		{"D := divide(A, B, 1/C);", 20, api.ErrSyntax},
		{"D := divide(A, B, 1/2/3);", 21, api.ErrSyntax},
		{"D := divide(A, B, 1/2", 21, api.ErrSyntax},
		{"D := divide(A, B, 1 2);", 20, api.ErrSyntax},
		{"D := divide(A, B, (1));", 18, api.ErrSyntax},
		{"D := divide(A, B, 1, C);", 19, api.ErrSyntax},
		{"D := divide(A, B, 1-2);", 19, api.ErrSyntax},
		{"D := midpoint(A, B, 1/2);", 18, api.ErrSyntax},
		{"D := midpoint(A, B, 1/0);", 18, api.ErrSyntax},
		{"D := midpoint(A, 1/2);", 17, api.ErrSyntax},
		{"D := midpoint(A, B) 1/2;", 20, api.ErrSyntax},
		{"D := turn(A, B, 1);", 14, api.ErrSyntax},
		{"prove ratio(A, B, C, D);", 22, api.ErrSyntax},
		{"prove ratio(A, B, C, 2);", 21, api.ErrSyntax},
		{"prove same(A, B, 2);", 15, api.ErrSyntax},
	} {
		expectProgramError(t, x.s, x.at, x.e)
	}
}

// P17.1: the errors of lexer.All come first, wherever they are.
func TestLexerErrors(t *testing.T) {
	long, digits := strings.Repeat("a", api.MaxName+1), strings.Repeat("1", api.MaxDigits+1)
	for _, x := range []wrong{
		{"$", 0, api.ErrSyntax},
		{"points A $", 9, api.ErrSyntax},
		{"; ; $", 4, api.ErrSyntax},
		{"A := B : C", 7, api.ErrSyntax},
		{"points points; A = 1", 17, api.ErrSyntax},
		{"D := divide(A, B, 1/0); 07", 24, api.ErrSyntax},
		{"D := divide(A, B, 1/00);", 20, api.ErrSyntax},
		{"D := divide(A, B, 01);", 18, api.ErrSyntax},
		{"points ;" + long, 8, api.ErrLarge},
		{"points " + long + ";", 7, api.ErrLarge},
		{"D := divide(A, B, " + digits + "/0);", 18, api.ErrLarge},
		{"D := divide(A, B, 1/" + digits + ");", 20, api.ErrLarge},
		{deep(api.MaxDepth+1) + "$", len(deep(api.MaxDepth + 1)), api.ErrSyntax},
	} {
		expectProgramError(t, x.s, x.at, x.e)
		if at, e := judge(x.s, symbol{text: "program"}); at != x.at || e != x.e {
			t.Errorf("%s is judged as %d, %d", short(x.s), at, e)
		}
	}
}

// P17.1: a source of the greatest length, and one of a byte more.
func TestMaxSource(t *testing.T) {
	const line = "prove same(A,B);\n"
	s := strings.Repeat(line, api.MaxSource/len(line))
	var want []api.Stmt
	for at := 0; at < len(s); at += len(line) {
		want = append(want, prove(at, tree(at+6, api.ExIsSame, name(at+11, "A"), name(at+13, "B"))))
	}
	s += strings.Repeat(" ", api.MaxSource-len(s))
	expectProgram(t, s, want...)
	expectProgramError(t, s+" ", 0, api.ErrLarge)
	expectProgramError(t, "$"+s, 0, api.ErrLarge)
	expectProgramError(t, s[:len(s)-1]+";", api.MaxSource-1, api.ErrSyntax)
	many := "points A" + strings.Repeat(",A", (api.MaxSource-9)/2) + ";"
	expectProgram(t, many, points(0, "A"+strings.Repeat(" A", (api.MaxSource-9)/2)))
	expectProgramError(t, many[:len(many)-1], len(many)-1, api.ErrSyntax)
	expectProgramError(t, strings.Repeat("(", api.MaxSource), 0, api.ErrSyntax)
	open := "A:=" + strings.Repeat("apex(", (api.MaxSource-3)/5)
	expectProgramError(t, open, 3+20*5, api.ErrLarge)
}

// deep returns a program with one statement, whose construction has this depth, with names as the deepest arguments.
func deep(depth int) string {
	return "A:=" + strings.Repeat("apex(", depth-1) + "B" + strings.Repeat(",C)", depth-1) + ";"
}

// P17.1: the greatest depth, and one more.
func TestDepth(t *testing.T) {
	e := name(3+19*5, "B")
	for i := range 19 {
		e = tree(3+(18-i)*5, api.ExApex, e, name(len("A:=")+19*5+2+i*3, "C"))
	}
	expectProgram(t, deep(20), define(0, api.StPoint, "A", e))
	apex := func(n int) string { return strings.Repeat("apex(", n) }
	for _, x := range []wrong{
		{deep(21), 3 + 20*5, api.ErrLarge},
		{deep(40), 3 + 20*5, api.ErrLarge},
		{"A:=" + apex(20) + "apex", 3 + 20*5, api.ErrLarge},
		{"A:=" + apex(20) + "B", 3 + 20*5, api.ErrLarge},
		{"A:=" + apex(20) + "turn $", 3 + 20*5 + 5, api.ErrSyntax},
		{"A:=" + apex(20) + "turn(1", 3 + 20*5, api.ErrLarge},
		{"A:=" + apex(20) + "line(B,C)", 3 + 20*5, api.ErrSyntax},
		{"A:=" + apex(20) + "same(B,C)", 3 + 20*5, api.ErrSyntax},
		{"A:=" + apex(20) + "1", 3 + 20*5, api.ErrSyntax},
		{"A:=" + apex(20) + "points", 3 + 20*5, api.ErrSyntax},
		{"A:=" + apex(20) + ")", 3 + 20*5, api.ErrSyntax},
		{"A:=" + apex(20), 3 + 20*5, api.ErrSyntax},
		{"A:=" + apex(19) + "apex B", 3 + 20*5, api.ErrSyntax},
		{"A:=" + apex(19) + "on(line(B,C))", 3 + 19*5 + 3, api.ErrLarge},
		{"A:=" + apex(19) + "on(midpoint(B,C))", 3 + 19*5 + 3, api.ErrSyntax},
		{"A:=" + apex(19) + "foot(1,l)", 3 + 19*5 + 5, api.ErrSyntax},
		{"A:=" + apex(18) + "foot(B,line(C,D))", 3 + 18*5 + 12, api.ErrLarge},
		{"A:=" + apex(18) + "B,apex(C", 3 + 18*5 + 8, api.ErrSyntax},
		{"A:=" + apex(18) + "B,apex(C,apex(D", 3 + 18*5 + 14, api.ErrLarge},
		{"A:=" + apex(18) + "divide(B,C,1/0)", 3 + 18*5 + 13, api.ErrZero},
		{"A:=" + apex(19) + "divide(B,C,1/0)", 3 + 19*5 + 7, api.ErrLarge},
	} {
		if at, e := judge(x.s, symbol{text: "program"}); at != x.at || e != x.e {
			t.Errorf("%s is judged as %d, %d", x.s, at, e)
		}
		expectProgramError(t, x.s, x.at, x.e)
	}
}

// P17.1: the error that is met first from the left decides.
func TestOrderOfErrors(t *testing.T) {
	large := "A:=" + strings.Repeat("apex(", 20) + "B"
	for _, x := range []wrong{
		{"D:=divide(A,B,1/0); points points;", 16, api.ErrZero},
		{"points points; D:=divide(A,B,1/0);", 7, api.ErrSyntax},
		{"D:=divide(A,B,1/0); " + large, 16, api.ErrZero},
		{large + "; D:=divide(A,B,1/0);", len(large) - 1, api.ErrLarge},
		{large + "; points points;", len(large) - 1, api.ErrLarge},
		{"points points; " + large, 7, api.ErrSyntax},
	} {
		expectProgramError(t, x.s, x.at, x.e)
	}
}

// P17.1: random right programs with blanks and comments between their tokens.
func TestRandomPrograms(t *testing.T) {
	r := newSource()
	for range 2 * rounds {
		s, p, _ := randomProgram(r, 6)
		expectProgram(t, s, p.Stmts...)
		if at, e := judge(s, symbol{text: "program"}); at != 0 || e != api.OK {
			t.Fatalf("%q is judged as %d, %d", s, at, e)
		}
	}
}

// P17.1: random programs with errors against the grammar of the chapter.
func TestRandomProgramErrors(t *testing.T) {
	r, count := newSource(), map[api.Errno]int{}
	for range 8 * rounds {
		_, _, tokens := randomProgram(r, 4)
		for range 1 + r.Intn(2) {
			tokens = damage(r, tokens)
		}
		s := join(r, tokens)
		at, e := judge(s, symbol{text: "program"})
		count[e]++
		if e != api.OK {
			expectProgramError(t, s, at, e)
			continue
		}
		p, gotAt, gotE := parser.Program(s)
		if gotAt != 0 || gotE != api.OK {
			t.Fatalf("Program(%q) returns %d, %d", s, gotAt, gotE)
		}
		if got := written(p); got != plain(tokens) {
			t.Fatalf("Program(%q) returns %s", s, got)
		}
	}
	if count[api.OK] < 50 || count[api.ErrSyntax] < rounds || count[api.ErrZero] < 5 {
		t.Errorf("the numbers of errors are %v", count)
	}
}

// plain returns the texts of the tokens, without those of ratios.
func plain(tokens []string) string {
	tokens = slices.DeleteFunc(slices.Clone(tokens), func(s string) bool { return strings.Contains("-/0123456789,", s[:1]) })
	return strings.Join(tokens, " ")
}

// written returns the tokens of p, without commas and ratios.
func written(p api.Program) string {
	var words []string
	var write func(e api.Expr)
	write = func(e api.Expr) {
		if e.Kind == api.ExName {
			words = append(words, e.Name)
			return
		}
		words = append(words, ast.Word(e.Kind), "(")
		for _, a := range e.Args {
			write(a)
		}
		words = append(words, ")")
	}
	for _, s := range p.Stmts {
		words = append(words, [][]string{{"points"}, nil, {"line"}, {"circle"}, {"prove"}}[s.Kind-1]...)
		words = append(words, s.Names...)
		if s.Kind > api.StPoints && s.Kind < api.StProve {
			words = append(words, ":=")
		}
		if s.Kind != api.StPoints {
			write(s.Expr)
		}
		words = append(words, ";")
	}
	return strings.Join(words, " ")
}

// P17.1: random lists of tokens, most of which can hardly go on.
func TestRandomTokens(t *testing.T) {
	r := newSource()
	for range 4 * rounds {
		_, _, tokens := randomProgram(r, 2)
		_, _, others := randomProgram(r, 2)
		tokens = append(tokens[:r.Intn(len(tokens)+1)], others[r.Intn(len(others)+1):]...)
		s := join(r, tokens)
		at, e := judge(s, symbol{text: "program"})
		if _, gotAt, gotE := parser.Program(s); gotAt != at || gotE != e {
			t.Fatalf("Program(%q) returns %d, %d, want %d, %d", s, gotAt, gotE, at, e)
		}
	}
}

// P17.1, P17.2: sources of any bytes.
func TestRandomBytes(t *testing.T) {
	r := newSource()
	for range 4 * rounds {
		b := make([]byte, r.Intn(12))
		for i := range b {
			b[i] = byte(r.Intn(256))
			if r.Intn(8) > 0 {
				b[i] = "Al0 (),;:=-/#\n"[r.Intn(14)]
			}
		}
		s := pick(r, "", "A:=on(", "points A", "prove same(", "on(", "divide(A,B,") + string(b)
		at, e := judge(s, symbol{text: "program"})
		if _, gotAt, gotE := parser.Program(s); gotAt != at || gotE != e {
			t.Fatalf("Program(%q) returns %d, %d, want %d, %d", s, gotAt, gotE, at, e)
		}
		at, e = judge(s, symbol{"expression", 1})
		if _, gotAt, gotE := parser.Expr(s); gotAt != at || gotE != e {
			t.Fatalf("Expr(%q) returns %d, %d, want %d, %d", s, gotAt, gotE, at, e)
		}
	}
}
