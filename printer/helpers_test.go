package printer_test

import (
	"fmt"
	"math/rand"
	"strconv"
	"strings"
	"testing"

	"geoprover/api"
	"geoprover/ast"
	"geoprover/parser"
	"geoprover/printer"
	"geoprover/rational"
)

// rounds is the number of pseudo-random cases of a test.
const rounds = 400

// newSource returns a generator with a fixed seed, so that each run tests the same programs.
func newSource() *rand.Rand { return rand.New(rand.NewSource(18)) }

// number returns the number with the text s.
func number(s string) api.Rat {
	a, e := rational.Read(s)
	if e != api.OK {
		panic(s)
	}
	return a
}

// name returns the ExName with this name.
func name(s string) api.Expr { return api.Expr{Kind: api.ExName, Name: s} }

// names returns an ExName for each of the names in s, which stand between spaces.
func names(s string) []api.Expr {
	var l []api.Expr
	for _, word := range strings.Fields(s) {
		l = append(l, name(word))
	}
	return l
}

// tree returns the expression of this kind with these arguments.
func tree(kind int, args ...api.Expr) api.Expr { return api.Expr{Kind: kind, Args: args} }

// withRatio returns e with this Ratio.
func withRatio(e api.Expr, ratio api.Rat) api.Expr {
	e.Ratio = ratio
	return e
}

// points returns the StPoints with the names in s, which stand between spaces.
func points(s string) api.Stmt { return api.Stmt{Kind: api.StPoints, Names: strings.Fields(s)} }

// define returns the statement of this kind that defines a name.
func define(kind int, name string, e api.Expr) api.Stmt {
	return api.Stmt{Kind: kind, Names: []string{name}, Expr: e}
}

// prove returns the StProve of a goal.
func prove(e api.Expr) api.Stmt { return api.Stmt{Kind: api.StProve, Expr: e} }

// program returns the program of these statements.
func program(stmts ...api.Stmt) api.Program { return api.Program{Stmts: stmts} }

// short returns s in quotes, without its middle if it is long.
func short(s string) string {
	if len(s) > 300 {
		s = s[:150] + ".." + s[len(s)-150:]
	}
	return strconv.Quote(s)
}

// expectProgram fails unless Program returns want for the statements.
func expectProgram(t *testing.T, want string, stmts ...api.Stmt) {
	t.Helper()
	if got, e := printer.Program(program(stmts...)); got != want || e != api.OK {
		t.Fatalf("the text is %s, %d, want %s", short(got), e, short(want))
	}
}

// expectProgramError fails unless Program returns the error want for the statements.
func expectProgramError(t *testing.T, want api.Errno, stmts ...api.Stmt) {
	t.Helper()
	if got, e := printer.Program(program(stmts...)); got != "" || e != want {
		t.Fatalf("the text of %s is %s, %d, want the error %d", short(fmt.Sprint(stmts)), short(got), e, want)
	}
}

// expectExpr fails unless Expr returns want for x.
func expectExpr(t *testing.T, want string, x api.Expr) {
	t.Helper()
	if got, e := printer.Expr(x); got != want || e != api.OK {
		t.Fatalf("the text is %s, %d, want %s", short(got), e, short(want))
	}
}

// expectExprError fails unless Expr returns the error want for x.
func expectExprError(t *testing.T, want api.Errno, x api.Expr) {
	t.Helper()
	if got, e := printer.Expr(x); got != "" || e != want {
		t.Fatalf("the text of %s is %s, %d, want the error %d", short(fmt.Sprint(x)), short(got), e, want)
	}
}

// programOf returns the program that s denotes.
func programOf(t *testing.T, s string) api.Program {
	t.Helper()
	p, at, e := parser.Program(s)
	if at != 0 || e != api.OK {
		t.Fatalf("the program %s has the error %d at %d", short(s), e, at)
	}
	return p
}

// textOf returns the text of p, which Program has to return.
func textOf(t *testing.T, p api.Program) string {
	t.Helper()
	s, e := printer.Program(p)
	if e != api.OK {
		t.Fatalf("the program %s has the error %d", short(fmt.Sprint(p)), e)
	}
	return s
}

// kindsOf returns the kinds of constructions of a sort.
func kindsOf(sort int) []int {
	var l []int
	for kind := range 100 {
		if ast.Word(kind) != "" && ast.Sort(kind) == sort {
			l = append(l, kind)
		}
	}
	return l
}

// exprText returns the text of a right expression by the definition of the chapter.
func exprText(x api.Expr) string {
	if x.Kind == api.ExName {
		return x.Name
	}
	var parts []string
	for _, a := range x.Args {
		parts = append(parts, exprText(a))
	}
	if x.Kind == api.ExDivide || x.Kind == api.ExIsRatio {
		parts = append(parts, rational.Text(x.Ratio))
	}
	return ast.Word(x.Kind) + "(" + strings.Join(parts, ", ") + ")"
}

// programText returns the text of a right program by the definition of the chapter.
func programText(p api.Program) string {
	var lines []string
	for _, x := range p.Stmts {
		switch x.Kind {
		case api.StPoints:
			lines = append(lines, "points "+strings.Join(x.Names, ", "))
		case api.StProve:
			lines = append(lines, "prove "+exprText(x.Expr))
		default:
			word := map[int]string{api.StLine: "line ", api.StCircle: "circle "}[x.Kind]
			lines = append(lines, word+x.Names[0]+" := "+exprText(x.Expr))
		}
	}
	return strings.Join(append(lines, ""), ";\n")
}

// randomName returns a name.
func randomName(r *rand.Rand) string {
	return []string{"A", "B", "C", "D", "l", "m", "M1", "lines", "Q7x", strings.Repeat("z", 20)}[r.Intn(10)]
}

// randomExpr returns a right construction of the sort, or also a name if there is one of this sort, with at most so many levels.
func randomExpr(r *rand.Rand, sort, levels int, canName bool) api.Expr {
	if sort == api.SortNone {
		sort = api.SortLine + r.Intn(2)
	}
	if canName && (levels < 2 || r.Intn(3) == 0) {
		return api.Expr{Kind: api.ExName, Name: randomName(r), Pos: r.Intn(100)}
	}
	l := kindsOf(sort)
	x := api.Expr{Kind: l[r.Intn(len(l))], Pos: r.Intn(100)}
	for _, param := range ast.Params(x.Kind) {
		x.Args = append(x.Args, randomExpr(r, param, levels-1, true))
	}
	if x.Kind == api.ExDivide || x.Kind == api.ExIsRatio {
		x.Ratio = rational.Frac(r.Intn(41)-20, 1+r.Intn(9))
	}
	return x
}

// randomProgram returns a right program of at most n statements.
func randomProgram(r *rand.Rand, n int) api.Program {
	var p api.Program
	for range r.Intn(n + 1) {
		s := api.Stmt{Kind: 1 + r.Intn(5), Pos: r.Intn(100)}
		switch s.Kind {
		case api.StPoints:
			for range 1 + r.Intn(4) {
				s.Names = append(s.Names, randomName(r))
			}
		case api.StProve:
			s.Expr = randomExpr(r, api.SortGoal, 2+r.Intn(4), false)
		default:
			s.Names = []string{randomName(r)}
			s.Expr = randomExpr(r, s.Kind-1, 2+r.Intn(4), false) // the sort of a kind of statements is one less
		}
		p.Stmts = append(p.Stmts, s)
	}
	return p
}

// power returns 10^n, a number with n + 1 digits.
func power(n int) api.Rat {
	p, base := rational.Of(1), rational.Of(10)
	for ; n > 0; n /= 2 {
		if n%2 == 1 {
			p = rational.Mul(p, base)
		}
		base = rational.Mul(base, base)
	}
	return p
}

// tower returns a right point of this depth.
func tower(depth int) api.Expr {
	x := name("B")
	for range depth - 1 {
		x = tree(api.ExApex, x, name("C"))
	}
	return x
}
