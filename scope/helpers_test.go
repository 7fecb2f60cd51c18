package scope_test

import (
	"fmt"
	"math/rand"
	"slices"
	"strings"
	"testing"

	"geoprover/api"
	"geoprover/ast"
	"geoprover/lexer"
	"geoprover/parser"
	"geoprover/printer"
	"geoprover/rational"
	"geoprover/scope"
)

// rounds is the number of pseudo-random cases of a test.
const rounds = 400

// newSource returns a generator with a fixed seed, so that each run tests the same programs.
func newSource() *rand.Rand { return rand.New(rand.NewSource(19)) }

// programOf returns the program that s denotes.
func programOf(t *testing.T, s string) api.Program {
	t.Helper()
	p, at, e := parser.Program(s)
	if e != api.OK {
		t.Fatalf("the program %q has the error %d at %d", s, e, at)
	}
	return p
}

// rightOf returns the right program that s denotes.
func rightOf(t *testing.T, s string) api.Program {
	t.Helper()
	p := programOf(t, s)
	if at, e := scope.Check(p); at != 0 || e != api.OK {
		t.Fatalf("Check of %q returns %d, %d", s, at, e)
	}
	return p
}

// textOf returns the text of p.
func textOf(t *testing.T, p api.Program) string {
	t.Helper()
	s, e := printer.Program(p)
	if e != api.OK {
		t.Fatalf("%v has no text: %d", p, e)
	}
	return s
}

// show returns all of x as text.
func show(x any) string { return fmt.Sprintf("%+v", x) }

// name returns the ExName with this name.
func name(s string) api.Expr { return api.Expr{Kind: api.ExName, Name: s} }

// names returns an ExName for each of the names in s, which stand between spaces.
func names(s string) []api.Expr {
	var l []api.Expr
	for _, word := range strings.Fields(s) {
		l = append(l, name(word))
	}
	return l
}

// tree returns the expression of this kind with these arguments.
func tree(kind int, args ...api.Expr) api.Expr { return api.Expr{Kind: kind, Args: args} }

// points returns the StPoints with the names in s, which stand between spaces.
func points(s string) api.Stmt { return api.Stmt{Kind: api.StPoints, Names: strings.Fields(s)} }

// define returns the statement of this kind that defines a name.
func define(kind int, name string, e api.Expr) api.Stmt {
	return api.Stmt{Kind: kind, Names: []string{name}, Expr: e}
}

// prove returns the StProve of a goal.
func prove(e api.Expr) api.Stmt { return api.Stmt{Kind: api.StProve, Expr: e} }

// expectStmts fails unless Check returns the index at and the error e for the statements.
func expectStmts(t *testing.T, at int, e api.Errno, stmts ...api.Stmt) {
	t.Helper()
	if gotAt, gotE := scope.Check(api.Program{Stmts: stmts}); gotAt != at || gotE != e {
		t.Fatalf("Check of %s returns %d, %d, want %d, %d", show(stmts), gotAt, gotE, at, e)
	}
}

// expectCheck fails unless Check returns the index at and the error e for the program that s denotes.
func expectCheck(t *testing.T, s string, at int, e api.Errno) {
	t.Helper()
	if gotAt, gotE := scope.Check(programOf(t, s)); gotAt != at || gotE != e {
		t.Fatalf("Check of %q returns %d, %d, want %d, %d", s, gotAt, gotE, at, e)
	}
}

// expectWords fails unless the names l that a function returned for the program are those in want, which stand between spaces.
func expectWords(t *testing.T, what string, p api.Program, l []string, want string) {
	t.Helper()
	if got := strings.Join(l, " "); got != want {
		t.Fatalf("%s of %q is %q, want %q", what, textOf(t, p), got, want)
	}
}

// definition is a name, its sort, and the index of the statement that defines it.
type definition struct {
	name     string
	sort, at int
}

// definitions returns what statements define, by the definition of the chapter.
func definitions(stmts []api.Stmt) []definition {
	var l []definition
	for i, s := range stmts {
		sort := map[int]int{api.StPoints: api.SortPoint, api.StPoint: api.SortPoint, api.StLine: api.SortLine, api.StCircle: api.SortCircle}[s.Kind]
		for _, name := range s.Names {
			l = append(l, definition{name, sort, i})
		}
	}
	return l
}

// use is a name in an expression, and the sort of the parameter for which it stands.
type use struct {
	name  string
	param int
}

// usesOf returns the names in a right expression for a parameter from left to right.
func usesOf(x api.Expr, param int) []use {
	if x.Kind == api.ExName {
		return []use{{x.Name, param}}
	}
	var l []use
	for i, next := range ast.Params(x.Kind) {
		l = append(l, usesOf(x.Args[i], next)...)
	}
	return l
}

// errorOf returns the error of the statement s behind others, all of which ast.CheckProgram accepts, by the definition of Check.
func errorOf(before []api.Stmt, s api.Stmt) api.Errno {
	known := definitions(before)
	for _, u := range usesOf(s.Expr, api.SortGoal) {
		i := slices.IndexFunc(known, func(d definition) bool { return d.name == u.name })
		if i < 0 {
			return api.ErrName
		}
		sort := known[i].sort
		if on := u.param == api.SortNone; on && sort == api.SortPoint || !on && sort != u.param {
			return api.ErrKind
		}
	}
	for i, name := range s.Names {
		if slices.Contains(s.Names[:i], name) || slices.ContainsFunc(known, func(d definition) bool { return d.name == name }) {
			return api.ErrTwice
		}
	}
	return api.OK
}

// check returns what Check has to return for a program that ast.CheckProgram accepts.
func check(p api.Program) (int, api.Errno) {
	for i, s := range p.Stmts {
		if e := errorOf(p.Stmts[:i], s); e != api.OK {
			return i, e
		}
	}
	return 0, api.OK
}

// usedIn returns the names in the text of a statement behind := or prove: those that it uses.
func usedIn(t *testing.T, s api.Stmt) []string {
	t.Helper()
	text := textOf(t, api.Program{Stmts: []api.Stmt{s}})
	begin := strings.Index(text, ":=")
	switch s.Kind {
	case api.StPoints:
		return nil
	case api.StProve:
		begin = len("prove")
	}
	l, _, _ := lexer.All(text)
	var used []string
	for _, x := range l {
		if x.Pos > begin && lexer.IsName(x.Text) {
			used = append(used, x.Text)
		}
	}
	return used
}

// pool returns the names that random programs have.
func pool() []string {
	return strings.Fields("A B C D E F G H P Q l m n k c d o M1 lines " + strings.Repeat("z", api.MaxName))
}

// author writes random right programs. It knows the sorts of the names that it has defined.
type author struct {
	r     *rand.Rand
	known map[string]int
}

// choose returns a name that is known as the sort, SortNone for a new one, or the empty string if there is none.
func (a author) choose(sort int) string {
	var l []string
	for _, name := range pool() {
		if a.known[name] == sort {
			l = append(l, name)
		}
	}
	if len(l) == 0 {
		return ""
	}
	return l[a.r.Intn(len(l))]
}

// argument returns an expression for the parameter, with at most so many levels if that is possible.
func (a author) argument(param, levels int) api.Expr {
	if param == api.SortNone {
		param = api.SortLine + a.r.Intn(2)
	}
	if levels < 2 || a.r.Intn(3) > 0 {
		if s := a.choose(param); s != "" {
			return name(s)
		}
	}
	return a.construction(param, levels)
}

// construction returns a construction of the sort, with at most so many levels if that is possible.
func (a author) construction(sort, levels int) api.Expr {
	var kinds []int
	for kind := range 100 {
		if ast.Sort(kind) == sort {
			kinds = append(kinds, kind)
		}
	}
	x := tree(kinds[a.r.Intn(len(kinds))])
	if levels < 2 && sort == api.SortLine { // points have names, which the first statement defines
		x.Kind = api.ExLine
	}
	for _, param := range ast.Params(x.Kind) {
		x.Args = append(x.Args, a.argument(param, levels-1))
	}
	if x.Kind == api.ExDivide || x.Kind == api.ExIsRatio {
		x.Ratio = rational.Frac(a.r.Intn(41)-20, 1+a.r.Intn(9))
	}
	return x
}

// stmt returns a statement of this kind, false if there is no name left for it.
func (a author) stmt(kind int) (api.Stmt, bool) {
	s := api.Stmt{Kind: kind}
	if kind != api.StPoints {
		s.Expr = a.construction(kind-1, 1+a.r.Intn(4)) // the sort of a kind of statements is one less
	}
	n := 1
	switch kind {
	case api.StPoints:
		n = 1 + a.r.Intn(3)
	case api.StProve:
		n = 0
	}
	for range n {
		name := a.choose(api.SortNone)
		if name == "" {
			return s, len(s.Names) > 0
		}
		s.Names = append(s.Names, name)
		a.known[name] = max(api.SortPoint, kind-1)
	}
	return s, true
}

// randomProgram returns a right program of at most n + 1 statements, with the positions of its text.
func randomProgram(t *testing.T, r *rand.Rand, n int) api.Program {
	t.Helper()
	a := author{r, map[string]int{}}
	first, _ := a.stmt(api.StPoints)
	p := api.Program{Stmts: []api.Stmt{first}}
	for range r.Intn(n + 1) {
		if s, ok := a.stmt(1 + r.Intn(5)); ok {
			p.Stmts = append(p.Stmts, s)
		}
	}
	return programOf(t, textOf(t, p))
}

// tokensOf returns the tokens of the text of p without the end, and the indices of those that are names.
func tokensOf(t *testing.T, p api.Program) (tokens []string, names []int) {
	t.Helper()
	l, _, _ := lexer.All(textOf(t, p))
	for i, x := range l[:len(l)-1] {
		tokens = append(tokens, x.Text)
		if lexer.IsName(x.Text) {
			names = append(names, i)
		}
	}
	return tokens, names
}

// damage returns a program that differs from p in at most one name.
func damage(t *testing.T, r *rand.Rand, p api.Program) api.Program {
	t.Helper()
	tokens, names := tokensOf(t, p)
	other := pool()[r.Intn(len(pool()))]
	if r.Intn(4) > 0 {
		other = tokens[names[r.Intn(len(names))]]
	}
	tokens[names[r.Intn(len(names))]] = other
	return programOf(t, strings.Join(tokens, " "))
}
