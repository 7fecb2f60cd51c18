package parser_test

import (
	"strings"
	"testing"

	"geoprover/api"
	"geoprover/ast"
	"geoprover/parser"
	"geoprover/predicate"
	"geoprover/rational"
)

// programOf returns the program that s denotes.
func programOf(t *testing.T, s string) api.Program {
	t.Helper()
	p, at, e := parser.Program(s)
	if at != 0 || e != api.OK {
		t.Fatalf("Program(%s) returns %d, %d", short(s), at, e)
	}
	return p
}

// P17.4
func TestRightResults(t *testing.T) {
	r := newSource()
	for range rounds {
		s, _, _ := randomProgram(r, 6)
		if at, e := ast.CheckProgram(programOf(t, s)); e != api.OK {
			t.Fatalf("the statement %d of %q has the error %d", at, s, e)
		}
		sort := api.SortPoint + r.Intn(3)
		s, _, _ = randomExpr(r, sort, 4)
		x, _, _ := parser.Expr(s)
		if e := ast.Check(x, sort); e != api.OK {
			t.Fatalf("the expression %q has the error %d", s, e)
		}
		names := letters()[:1+r.Intn(8)]
		_, parts := randomFact(r, names)
		f, _, _ := parser.Fact(spread(r, parts), names)
		if e := predicate.Right(f, len(names)); e != api.OK {
			t.Fatalf("the fact %q has the error %d", parts, e)
		}
	}
	if at, e := ast.CheckProgram(programOf(t, deep(api.MaxDepth))); e != api.OK {
		t.Errorf("the deepest program has the error %d at %d", e, at)
	}
}

// moved returns statements whose positions are greater by n.
func moved(stmts []api.Stmt, n int) []api.Stmt {
	var l []api.Stmt
	for _, s := range stmts {
		s.Pos += n
		if s.Kind != api.StPoints {
			s.Expr = movedExpr(s.Expr, n)
		}
		l = append(l, s)
	}
	return l
}

// movedExpr returns an expression whose positions are greater by n.
func movedExpr(e api.Expr, n int) api.Expr {
	args := e.Args
	e.Args = nil
	for _, a := range args {
		e.Args = append(e.Args, movedExpr(a, n))
	}
	e.Pos += n
	return e
}

// P17.5
func TestConcatenation(t *testing.T) {
	r := newSource()
	for i := range rounds {
		a, p, _ := randomProgram(r, 4)
		b, q, _ := randomProgram(r, 4)
		if i%4 == 0 {
			a += "# points"
		}
		expectProgram(t, a+"\n"+b, append(p.Stmts, moved(q.Stmts, len(a)+1)...)...)
	}
	expectProgram(t, "\n")
}

// P17.5: up to the greatest length.
func TestLongConcatenation(t *testing.T) {
	a, b := strings.Repeat("points A;\n", 1000), strings.Repeat("P:=on(l);", 1100)
	a += strings.Repeat(" ", api.MaxSource-1-len(a)-len(b))
	expectProgram(t, a+"\n"+b, append(programOf(t, a).Stmts, moved(programOf(t, b).Stmts, len(a)+1)...)...)
	expectProgramError(t, a+" \n"+b, 0, api.ErrLarge)
}

// P17.6
func TestFactsAreReadBack(t *testing.T) {
	r := newSource()
	lists := [][]string{letters(), {"A"}, {"$1", "same", "on", "1/2", "#", "Ä", "\xff", ":=", "-0", ";"}, {"a\vb", "a", "b"}}
	for i := range 2 * rounds {
		names := lists[r.Intn(len(lists))]
		f := api.Fact{Kind: 1 + i%9}
		for range predicate.Arity(f.Kind) {
			f.Args = append(f.Args, r.Intn(len(names)))
		}
		if f.Kind == api.FactRatio {
			f.Ratio = rational.Frac(r.Intn(2001)-1000, 1+r.Intn(100))
		}
		s, e := predicate.Text(f, names)
		if e != api.OK {
			t.Fatalf("the text of %v has the error %d", f, e)
		}
		expectFact(t, s, names, f)
	}
}

// P17.6: a text of the greatest length.
func TestLongFactsAreReadBack(t *testing.T) {
	names := []string{"A", strings.Repeat("b", api.MaxSource-len("same(A, )"))}
	f := fact(api.FactSame, 0, 1)
	s, _ := predicate.Text(f, names)
	if len(s) != api.MaxSource {
		t.Fatalf("the text has %d bytes", len(s))
	}
	expectFact(t, s, names, f)
	names[0] += "A"
	s, _ = predicate.Text(f, names)
	expectFactError(t, s, names, 0, api.ErrLarge)
}

// P17.7
func TestExprsInPrograms(t *testing.T) {
	r, count := newSource(), 0
	for range rounds {
		s, x, _ := randomExpr(r, api.SortPoint, 5)
		if x.Kind == api.ExName {
			continue
		}
		count++
		expectProgram(t, "X := "+s+"\n;", define(0, api.StPoint, "X", movedExpr(x, 5)))
	}
	if count < rounds/2 {
		t.Errorf("only %d expressions are constructions", count)
	}
	s := "on(l)" + strings.Repeat(" ", api.MaxSource-5-7)
	expectProgram(t, "X := "+s+"\n;", define(0, api.StPoint, "X", tree(5, api.ExOn, name(8, "l"))))
	expectProgramError(t, "X := "+s+" \n;", 0, api.ErrLarge)
}
