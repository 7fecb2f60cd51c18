package parser_test

import (
	"fmt"
	"math/rand"
	"slices"
	"strconv"
	"strings"
	"testing"

	"geoprover/api"
	"geoprover/ast"
	"geoprover/parser"
	"geoprover/rational"
)

// rounds is the number of pseudo-random cases of a test.
const rounds = 400

// newSource returns a generator with a fixed seed, so that each run tests the same sources.
func newSource() *rand.Rand { return rand.New(rand.NewSource(17)) }

// number returns the number with the text s.
func number(s string) api.Rat {
	a, e := rational.Read(s)
	if e != api.OK {
		panic(s)
	}
	return a
}

// name returns the ExName at this offset.
func name(pos int, s string) api.Expr { return api.Expr{Kind: api.ExName, Name: s, Pos: pos} }

// tree returns the expression of this kind at this offset, with these arguments.
func tree(pos, kind int, args ...api.Expr) api.Expr {
	return api.Expr{Kind: kind, Args: args, Pos: pos}
}

// withRatio returns e with this Ratio.
func withRatio(e api.Expr, ratio string) api.Expr {
	e.Ratio = number(ratio)
	return e
}

// points returns the StPoints at this offset, with the names in s, which stand between spaces.
func points(pos int, s string) api.Stmt {
	return api.Stmt{Kind: api.StPoints, Names: strings.Fields(s), Pos: pos}
}

// define returns the statement of this kind at this offset that defines a name.
func define(pos, kind int, name string, e api.Expr) api.Stmt {
	return api.Stmt{Kind: kind, Names: []string{name}, Expr: e, Pos: pos}
}

// prove returns the StProve at this offset.
func prove(pos int, e api.Expr) api.Stmt { return api.Stmt{Kind: api.StProve, Expr: e, Pos: pos} }

// show returns all of x as text: x is a program, an expression or a fact.
func show(x any) string { return fmt.Sprintf("%+v", x) }

// short returns s in quotes, without its middle if it is long.
func short(s string) string {
	if len(s) > 300 {
		s = s[:150] + ".." + s[len(s)-150:]
	}
	return strconv.Quote(s)
}

// expect fails unless a function returned for the source s what it should: x, the offset and the error got, where x is zero behind an error.
func expect(t *testing.T, s string, got, want any, gotAt, at int, gotE, e api.Errno) {
	t.Helper()
	if gotAt != at || gotE != e {
		t.Fatalf("%s yields the offset %d and the error %d, want %d and %d", short(s), gotAt, gotE, at, e)
	}
	if show(got) != show(want) {
		t.Fatalf("%s yields %s, want %s", short(s), show(got), show(want))
	}
}

// expectProgram fails unless Program accepts s and returns these statements.
func expectProgram(t *testing.T, s string, stmts ...api.Stmt) {
	t.Helper()
	p, at, e := parser.Program(s)
	expect(t, s, p, api.Program{Stmts: stmts}, at, 0, e, api.OK)
}

// expectProgramError fails unless Program returns the error e and the offset at for s.
func expectProgramError(t *testing.T, s string, at int, e api.Errno) {
	t.Helper()
	p, gotAt, gotE := parser.Program(s)
	expect(t, s, p, api.Program{}, gotAt, at, gotE, e)
}

// expectExpr fails unless Expr accepts s and returns x.
func expectExpr(t *testing.T, s string, x api.Expr) {
	t.Helper()
	got, at, e := parser.Expr(s)
	expect(t, s, got, x, at, 0, e, api.OK)
}

// expectExprError fails unless Expr returns the error e and the offset at for s.
func expectExprError(t *testing.T, s string, at int, e api.Errno) {
	t.Helper()
	x, gotAt, gotE := parser.Expr(s)
	expect(t, s, x, api.Expr{}, gotAt, at, gotE, e)
}

// expectFact fails unless Fact accepts s for the names and returns f.
func expectFact(t *testing.T, s string, names []string, f api.Fact) {
	t.Helper()
	got, at, e := parser.Fact(s, names)
	expect(t, s, got, f, at, 0, e, api.OK)
}

// expectFactError fails unless Fact returns the error e and the offset at for s and the names.
func expectFactError(t *testing.T, s string, names []string, at int, e api.Errno) {
	t.Helper()
	f, gotAt, gotE := parser.Fact(s, names)
	expect(t, s, f, api.Fact{}, gotAt, at, gotE, e)
}

// wrong is a source, and the offset and the error that it yields.
type wrong struct {
	s  string
	at int
	e  api.Errno
}

// kindsOf returns the kinds of constructions of a sort.
func kindsOf(sort int) []int {
	var l []int
	for kind := range 100 {
		if ast.Word(kind) != "" && ast.Sort(kind) == sort {
			l = append(l, kind)
		}
	}
	return l
}

// hasRatio reports whether constructions of this kind have a ratio.
func hasRatio(kind int) bool { return kind == api.ExDivide || kind == api.ExIsRatio }

// author writes a random source, and builds what it denotes.
type author struct {
	r      *rand.Rand
	s      strings.Builder
	tokens []string
}

// token writes blanks, where they are required or at random, and a token; it returns the offset of the token.
func (a *author) token(text string) int {
	a.s.WriteString(gap(a.r, a.s.String(), text))
	pos := a.s.Len()
	a.s.WriteString(text)
	a.tokens = append(a.tokens, text)
	return pos
}

// gap returns blanks and comments between s and the next token.
func gap(r *rand.Rand, s, token string) string {
	const word = "ABCDEFGHIJKLMNOPQRSTUVWXYZabcdefghijklmnopqrstuvwxyz0123456789"
	joins := s != "" && strings.ContainsAny(s[len(s)-1:], word) && strings.ContainsAny(token[:1], word)
	blanks := ""
	for joins && blanks == "" || r.Intn(4) == 0 {
		blanks += pick(r, " ", " ", "\n", "\t", "\r\n", "# $ 07 := points\n")
	}
	return blanks
}

// join returns the tokens with random blanks between them.
func join(r *rand.Rand, tokens []string) string {
	a := author{r: r}
	for _, text := range tokens {
		a.token(text)
	}
	return a.s.String()
}

// pick returns one of the strings.
func pick(r *rand.Rand, l ...string) string { return l[r.Intn(len(l))] }

// randomName returns a name, often one that occurs often.
func randomName(r *rand.Rand) string {
	return pick(r, "A", "B", "C", "D", "l", "m", "M1", "lines", "Q7x", strings.Repeat("z", 20))
}

// name writes a name.
func (a *author) name() (int, string) {
	s := randomName(a.r)
	return a.token(s), s
}

// construction writes a construction of the sort, with at most so many levels (and at least two).
func (a *author) construction(sort, levels int) api.Expr {
	l := kindsOf(sort)
	kind := l[a.r.Intn(len(l))]
	e := api.Expr{Kind: kind, Pos: a.token(ast.Word(kind))}
	for i, param := range ast.Params(kind) {
		a.token(map[bool]string{true: "(", false: ","}[i == 0])
		e.Args = append(e.Args, a.argument(param, levels-1))
	}
	if hasRatio(kind) {
		a.token(",")
		e.Ratio = a.ratio()
	}
	a.token(")")
	return e
}

// argument writes an argument for the parameter, with at most so many levels.
func (a *author) argument(param, levels int) api.Expr {
	if param == api.SortNone {
		param = api.SortLine + a.r.Intn(2)
	}
	if levels < 2 || a.r.Intn(3) == 0 {
		pos, s := a.name()
		return name(pos, s)
	}
	return a.construction(param, levels)
}

// ratio writes a ratio.
func (a *author) ratio() api.Rat {
	sign, num, den := 1, a.r.Intn(13), 1
	if a.r.Intn(2) == 0 {
		a.token("-")
		sign = -1
	}
	a.token(strconv.Itoa(num))
	if a.r.Intn(2) == 0 {
		den = 1 + a.r.Intn(12)
		a.token("/")
		a.token(strconv.Itoa(den))
	}
	return rational.Frac(sign*num, den)
}

// stmt writes a statement.
func (a *author) stmt() api.Stmt {
	kind := 1 + a.r.Intn(5)
	words := []string{"", "points", "", "line", "circle", "prove"}
	s, pos := api.Stmt{Kind: kind}, -1
	if words[kind] != "" {
		pos = a.token(words[kind])
	}
	for range 1 + a.r.Intn(3) {
		if kind == api.StProve || kind != api.StPoints && len(s.Names) == 1 {
			break
		}
		if len(s.Names) > 0 {
			a.token(",")
		}
		first, name := a.name()
		if pos < 0 {
			pos = first
		}
		s.Names = append(s.Names, name)
	}
	s.Pos = pos
	if kind != api.StPoints {
		if kind != api.StProve {
			a.token(":=")
		}
		s.Expr = a.construction(kind-1, 2+a.r.Intn(3)) // the sort of a kind of statements is one less
	}
	a.token(";")
	return s
}

// randomProgram returns a source of at most n statements, the program that it denotes, and its tokens.
func randomProgram(r *rand.Rand, n int) (string, api.Program, []string) {
	a, p := author{r: r}, api.Program{}
	for range r.Intn(n + 1) {
		p.Stmts = append(p.Stmts, a.stmt())
	}
	return a.s.String() + pick(r, "", "", " ", "\n", "# end"), p, a.tokens
}

// randomExpr returns a source of an expression, the expression that it denotes, and its tokens.
func randomExpr(r *rand.Rand, sort, levels int) (string, api.Expr, []string) {
	a := author{r: r}
	x := a.argument(sort, levels)
	return a.s.String() + pick(r, "", "", " ", "\n", "# end"), x, a.tokens
}

// damage returns tokens that differ from these in one place.
func damage(r *rand.Rand, tokens []string) []string {
	at := r.Intn(len(tokens) + 1)
	before, behind := tokens[:at:at], tokens[at:]
	other := pick(r, "(", ")", ",", ";", "/", "-", ":=", "0", "1", "2", "A", "l", "points", "line", "circle", "prove", "on", "midpoint", "parallel", "divide", "ratio", "same", "circum", "turn")
	if slash := slices.Index(tokens, "/"); slash >= 0 && slash+1 < len(tokens) && r.Intn(4) == 0 {
		zero := slices.Clone(tokens)
		zero[slash+1] = "0"
		return zero
	}
	switch r.Intn(6) {
	case 0, 1:
		return append(append(before, other), behind[min(1, len(behind)):]...)
	case 2:
		return append(append(before, other), behind...)
	case 3:
		return append(before, behind[min(1, len(behind)):]...)
	case 4:
		return before
	}
	if len(behind) < 2 {
		return tokens
	}
	return append(append(before, behind[1], behind[0]), behind[2:]...)
}
