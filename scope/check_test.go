package scope_test

import (
	"math"
	"strings"
	"testing"

	"geoprover/api"
	"geoprover/ast"
	"geoprover/rational"
)

// P19.1: the examples of the chapter.
func TestCheckExamples(t *testing.T) {
	expectCheck(t, "points A, B; C := foot(A, B);", 1, api.ErrKind)
	expectCheck(t, "points A, B, A;", 0, api.ErrTwice)
	expectCheck(t, "C := apex(A, B);", 0, api.ErrName)
	expectCheck(t, "points A; line A := line(A, A);", 1, api.ErrTwice)
	expectCheck(t, "points A, B; circle c := circle(A, B); P := on(c);", 0, api.OK)
	expectCheck(t, "points A, B; circle c := circle(A, B); P := on(A);", 2, api.ErrKind)
	expectCheck(t, "points A; A := apex(B, A);", 1, api.ErrName)
	line := tree(api.ExLine, names("A B")...)
	expectStmts(t, 1, api.ErrKind, points("A B"), prove(tree(api.ExIsCollinear, name("A"), name("B"), line)))
}

// P19.1: right programs, the empty one first.
func TestCheckRight(t *testing.T) {
	expectStmts(t, 0, api.OK)
	expectStmts(t, 0, api.OK, []api.Stmt{}...)
	for _, s := range []string{
		"points A;",
		"points A; points B, C; points D;",
		"points A, B, C; line l := line(A, B); circle c := circum(A, B, C); D := foot(C, l); P := cut(l, c); prove concyclic(A, B, C, P); prove collinear(A, B, D);",
		"points A, B; line l := perpendicular(A, line(A, B)); line m := parallel(B, l); P := meet(l, m);",
		"points A, B; prove same(A, B); prove same(A, B); points C; prove same(A, C);",
		"points on1, lines; On := apex(on1, lines); line zzzzzzzzzzzzzzzzzzzz := bisector(On, on1); P := on(zzzzzzzzzzzzzzzzzzzz);",
		"points a, A, aa; prove collinear(a, A, aa);",
	} {
		expectCheck(t, s, 0, api.OK)
	}
}

// P19.1: names that no earlier statement defines.
func TestCheckUndefined(t *testing.T) {
	expectCheck(t, "prove same(A, B);", 0, api.ErrName)
	expectCheck(t, "points A; prove same(A, B);", 1, api.ErrName)
	expectCheck(t, "M := midpoint(A, B); points A, B;", 0, api.ErrName) // a definition behind the use
	expectCheck(t, "points A, B; P := on(l); line l := line(A, B);", 1, api.ErrName)
	expectCheck(t, "points A, B; line l := parallel(A, l);", 1, api.ErrName) // its own definition
	expectCheck(t, "points A; B := apex(A, B);", 1, api.ErrName)
	expectCheck(t, "points A, B; circle c := circle(A, on(c));", 1, api.ErrName)
	expectCheck(t, "points A, B; C := apex(a, b);", 1, api.ErrName) // other names
	expectCheck(t, "points A, B, C; D := midpoint(A, midpoint(B, midpoint(C, X)));", 1, api.ErrName)
	expectCheck(t, "points A; line m := line(A, A); prove parallel(l, m);", 2, api.ErrName)
}

// P19.1: a name of each sort as each argument of each kind.
func TestCheckSorts(t *testing.T) {
	sorts := map[string]int{"P": api.SortPoint, "l": api.SortLine, "c": api.SortCircle}
	before := "points P; line l := line(P, P); circle c := circle(P, P); "
	for kind := range 100 {
		params := ast.Params(kind)
		for i, param := range params {
			for s, sort := range sorts {
				x := tree(kind)
				for k, other := range params {
					right := map[int]string{api.SortNone: "c", api.SortPoint: "P", api.SortLine: "l", api.SortCircle: "c"}[other]
					if k == i {
						right = s
					}
					x.Args = append(x.Args, name(right))
				}
				if kind == api.ExDivide || kind == api.ExIsRatio {
					x.Ratio = rational.Of(3)
				}
				stmt := prove(x)
				if ast.Sort(kind) != api.SortGoal {
					stmt = define(ast.Sort(kind)+1, "X", x) // the kind of the statements is one more
				}
				stmts := append(programOf(t, before).Stmts, stmt)
				if param == sort || param == api.SortNone && sort != api.SortPoint {
					expectStmts(t, 0, api.OK, stmts...)
				} else {
					expectStmts(t, 3, api.ErrKind, stmts...)
				}
			}
		}
	}
}

// P19.1: the argument of on, and sorts deep in expressions.
func TestCheckNested(t *testing.T) {
	before := "points P, Q; line l := line(P, Q); circle c := circle(P, Q); "
	for s, want := range map[string]api.Errno{
		"X := on(l);":                           api.OK,
		"X := on(c);":                           api.OK,
		"X := on(P);":                           api.ErrKind,
		"X := on(X);":                           api.ErrName,
		"X := on(line(P, Q));":                  api.OK,
		"X := on(line(P, l));":                  api.ErrKind,
		"X := on(circle(c, Q));":                api.ErrKind,
		"X := on(parallel(P, c));":              api.ErrKind,
		"X := on(parallel(on(c), l));":          api.OK,
		"X := midpoint(P, midpoint(P, on(Q)));": api.ErrKind,
		"X := midpoint(P, midpoint(P, on(circle(P, c))));": api.ErrKind,
		"X := cut(l, c);":                     api.OK,
		"X := cut(c, l);":                     api.ErrKind,
		"X := cross(c, l);":                   api.ErrKind,
		"X := meet(c, l);":                    api.ErrKind,
		"line x := line(P, l);":               api.ErrKind,
		"circle x := circle(P, c);":           api.ErrKind,
		"prove parallel(l, c);":               api.ErrKind,
		"prove parallel(l, P);":               api.ErrKind,
		"prove perpendicular(l, line(P, Q));": api.OK,
		"prove same(P, foot(Q, l));":          api.OK,
		"prove same(P, foot(l, l));":          api.ErrKind,
	} {
		at := 3
		if want == api.OK {
			at = 0
		}
		expectCheck(t, before+s, at, want)
	}
}

// P19.1: names that are defined twice, by each two kinds of statements.
func TestCheckTwice(t *testing.T) {
	definitions := []string{"points N; ", "N := apex(A, B); ", "line N := line(A, B); ", "circle N := circle(A, B); "}
	for _, a := range definitions {
		for _, b := range definitions {
			expectCheck(t, "points A, B; "+a+b, 2, api.ErrTwice)
			expectCheck(t, "points A, B; "+a+"prove same(A, B); "+b, 3, api.ErrTwice)
			expectCheck(t, "points A, B; "+a+strings.ReplaceAll(b, "N", "n"), 0, api.OK)
		}
	}
	for _, s := range []string{"points B;", "B := apex(A, B);", "line B := line(A, B);", "circle B := circle(A, B);"} {
		expectCheck(t, "points A, B; "+s, 1, api.ErrTwice)
		expectCheck(t, "points A; points B; "+s, 2, api.ErrTwice)
	}
}

// P19.1: names that are defined twice in one list.
func TestCheckLists(t *testing.T) {
	expectCheck(t, "points A, A;", 0, api.ErrTwice)
	expectCheck(t, "points A, B, C, B;", 0, api.ErrTwice)
	expectCheck(t, "points A, B, C, C;", 0, api.ErrTwice)
	expectCheck(t, "points A, B; points C, D, A;", 1, api.ErrTwice)
	expectCheck(t, "points A, B; points B;", 1, api.ErrTwice)
	expectCheck(t, "points A, B; points C, D; points E, C;", 2, api.ErrTwice)
	var many []string
	for _, a := range "ABCDEFGHIJKLMNOPQRSTUVWXYZ" {
		for _, b := range "abcdefghijklmnopqrstuvwxyz0123456789" {
			many = append(many, string(a)+string(b))
		}
	}
	s := api.Stmt{Kind: api.StPoints, Names: many}
	expectStmts(t, 0, api.OK, s)
	s.Names = append(s.Names, many[0])
	expectStmts(t, 0, api.ErrTwice, s)
}

// P19.1: the error of ast.CheckProgram for a statement, with the index of the statement.
func TestCheckStatements(t *testing.T) {
	deep := name("A")
	for range api.MaxDepth {
		deep = tree(api.ExApex, deep, name("A"))
	}
	wrong := []struct {
		s api.Stmt
		e api.Errno
	}{
		{api.Stmt{}, api.ErrKind},
		{api.Stmt{Kind: api.StProve + 1, Names: []string{"A"}}, api.ErrKind},
		{api.Stmt{Kind: math.MinInt}, api.ErrKind},
		{points(""), api.ErrArg},
		{points("C on"), api.ErrName},
		{api.Stmt{Kind: api.StPoints, Names: []string{"C"}, Expr: name("A")}, api.ErrArg},
		{api.Stmt{Kind: api.StPoint, Names: []string{"C", "D"}, Expr: tree(api.ExApex, names("A A")...)}, api.ErrArg},
		{api.Stmt{Kind: api.StProve, Names: []string{"C"}, Expr: tree(api.ExIsSame, names("A A")...)}, api.ErrArg},
		{define(api.StPoint, "C", name("A")), api.ErrKind},
		{define(api.StLine, "l", tree(api.ExApex, names("A A")...)), api.ErrKind},
		{define(api.StPoint, "C", tree(api.ExApex, names("A")...)), api.ErrArg},
		{define(api.StPoint, "C", tree(api.ExApex, names("A 7")...)), api.ErrName},
		{define(api.StPoint, "C", tree(api.ExDivide, names("A A")...)), api.ErrArg},
		{define(api.StPoint, "C", tree(api.ExMidpoint, name("A"), tree(api.ExLine, names("A A")...))), api.ErrKind},
		{define(api.StPoint, "C", deep), api.ErrLarge},
		{prove(deep), api.ErrLarge},
	}
	for _, x := range wrong {
		expectStmts(t, 0, x.e, x.s)
		expectStmts(t, 1, x.e, points("A"), x.s)
		expectStmts(t, 2, x.e, points("A"), points("B"), x.s, points("A"))
		expectStmts(t, 0, api.ErrName, prove(tree(api.ExIsSame, names("A A")...)), x.s) // the first statement with an error decides
		for _, y := range wrong {
			expectStmts(t, 1, x.e, points("A"), x.s, y.s)
		}
	}
	expectStmts(t, 0, api.OK, points("A"), define(api.StPoint, "C", deep.Args[0]))
}

// P19.1: of several errors of one statement, the one that the chapter names first.
func TestCheckOrder(t *testing.T) {
	// the statement alone, before names that are not defined, or defined twice
	line := tree(api.ExLine, names("X X")...)
	expectStmts(t, 1, api.ErrKind, points("A"), define(api.StPoint, "A", tree(api.ExMidpoint, name("X"), line)))
	expectStmts(t, 1, api.ErrArg, points("A"), define(api.StPoint, "A", tree(api.ExMidpoint, names("X A A")...)))
	expectStmts(t, 1, api.ErrArg, points("A"), api.Stmt{Kind: api.StPoint, Names: []string{"A", "A"}, Expr: tree(api.ExMidpoint, names("X X")...)})
	expectStmts(t, 1, api.ErrArg, points("A"), api.Stmt{Kind: api.StPoints, Names: []string{"A"}, Expr: name("X")})
	expectStmts(t, 1, api.ErrName, points("A"), points("A A 7"))
	expectStmts(t, 1, api.ErrKind, points("A"), define(api.StLine, "A", tree(api.ExMidpoint, names("X X")...)))
	// the names of the Expr from left to right
	expectCheck(t, "points A; X := foot(Y, A);", 1, api.ErrName)
	expectCheck(t, "points A; line l := line(A, A); X := foot(l, Y);", 2, api.ErrKind)
	expectCheck(t, "points A; line l := line(A, A); X := midpoint(midpoint(A, l), Y);", 2, api.ErrKind)
	expectCheck(t, "points A; line l := line(A, A); X := midpoint(midpoint(A, Y), l);", 2, api.ErrName)
	expectCheck(t, "points A; line l := line(A, A); X := midpoint(l, midpoint(A, Y));", 2, api.ErrKind)
	expectCheck(t, "points A; line l := line(A, A); prove concyclic(A, A, l, Y);", 2, api.ErrKind)
	expectCheck(t, "points A; line l := line(A, A); prove concyclic(A, A, Y, l);", 2, api.ErrName)
	// the Expr before the Names
	expectCheck(t, "points A; A := apex(A, X);", 1, api.ErrName)
	expectCheck(t, "points A; line l := line(A, A); A := apex(A, l);", 2, api.ErrKind)
	expectCheck(t, "points A; A := apex(A, A);", 1, api.ErrTwice)
}

// P19.1: the first statement that is not right decides.
func TestCheckFirst(t *testing.T) {
	expectCheck(t, "points A, B; C := foot(A, B); points A; D := apex(X, Y);", 1, api.ErrKind)
	expectCheck(t, "points A, B; points A; C := foot(A, B); D := apex(X, Y);", 1, api.ErrTwice)
	expectCheck(t, "points A, B; D := apex(X, Y); points A; C := foot(A, B);", 1, api.ErrName)
	expectCheck(t, "points A, B; D := apex(A, X); E := apex(A, D);", 1, api.ErrName)
	var stmts []api.Stmt
	for range 3000 {
		stmts = append(stmts, prove(tree(api.ExIsSame, names("A A")...)))
	}
	stmts[0] = points("A")
	expectStmts(t, 0, api.OK, stmts...)
	expectStmts(t, 3000, api.ErrTwice, append(stmts, points("A"))...)
}

// P19.1: goals use names, but define none.
func TestCheckGoals(t *testing.T) {
	expectCheck(t, "points A, B; prove same(A, B);", 0, api.OK)
	expectCheck(t, "points A, B; prove same(A, C); points C;", 1, api.ErrName)
	expectCheck(t, "points A, B; prove ratio(A, B, B, A, 1); line l := line(A, B); prove parallel(l, l);", 0, api.OK)
	expectCheck(t, "points A, B; prove parallel(l, l);", 1, api.ErrName)
	expectCheck(t, "points A, B; prove parallel(A, B);", 1, api.ErrKind)
}

// P19.1: random programs, right ones and ones with another name in one place.
func TestCheckRandom(t *testing.T) {
	r, met := newSource(), map[api.Errno]int{}
	for range 4 * rounds {
		p := randomProgram(t, r, 10)
		expectStmts(t, 0, api.OK, p.Stmts...)
		p = damage(t, r, p)
		at, e := check(p)
		met[e]++
		expectStmts(t, at, e, p.Stmts...)
	}
	for _, e := range []api.Errno{api.OK, api.ErrName, api.ErrKind, api.ErrTwice} {
		if met[e] < rounds/8 {
			t.Errorf("only %d programs have the error %d", met[e], e)
		}
	}
}
