package lower_test

import (
	"fmt"
	"math/rand"
	"slices"
	"strconv"
	"strings"
	"testing"

	"geoprover/api"
	"geoprover/ast"
	"geoprover/lower"
	"geoprover/parser"
	"geoprover/printer"
	"geoprover/rational"
	"geoprover/scope"
)

// rounds is the number of pseudo-random cases of a test.
const rounds = 400

// newSource returns a generator with a fixed seed, so that each run tests the same programs.
func newSource() *rand.Rand { return rand.New(rand.NewSource(20)) }

// number returns the number with the text s.
func number(s string) api.Rat {
	a, e := rational.Read(s)
	if e != api.OK {
		panic(s)
	}
	return a
}

// programOf returns the program that s denotes.
func programOf(t *testing.T, s string) api.Program {
	t.Helper()
	p, at, e := parser.Program(s)
	if e != api.OK {
		t.Fatalf("the program %q has the error %d at %d", s, e, at)
	}
	return p
}

// textOf returns the text of p.
func textOf(t *testing.T, p api.Program) string {
	t.Helper()
	s, e := printer.Program(p)
	if e != api.OK {
		t.Fatalf("%v has no text: %d", p, e)
	}
	return s
}

// figureOf returns the figure of the program that s denotes.
func figureOf(t *testing.T, s string) api.Figure {
	t.Helper()
	f, at, e := lower.Figure(programOf(t, s))
	if at != 0 || e != api.OK {
		t.Fatalf("Figure of %q returns %d, %d", s, at, e)
	}
	return f
}

// stepWords returns the words that stand for the kinds of steps in the texts of figures, by their numbers.
func stepWords() []string {
	return []string{"", "free", "divide", "shift", "turn", "online", "oncircle", "foot", "mirror", "meet", "other", "center", "cut", "cross", "apex"}
}

// factWords returns the words of the kinds of facts, by their numbers.
func factWords() []string {
	return []string{"", "collinear", "parallel", "perpendicular", "congruent", "midpoint", "concyclic", "angle", "same", "ratio"}
}

// row returns a word of a kind, the numbers behind it, and a Ratio if there is one, with spaces between them.
func row(words []string, kind int, args []int, ratio api.Rat) string {
	s := "?" + strconv.Itoa(kind)
	if kind > 0 && kind < len(words) {
		s = words[kind]
	}
	for _, a := range args {
		s += " " + strconv.Itoa(a)
	}
	if rational.Right(ratio) {
		return s + " " + rational.Text(ratio)
	}
	if len(ratio.Num.Abs) > 0 || len(ratio.Den) > 0 || ratio.Num.Neg {
		return s + fmt.Sprintf(" %v", ratio)
	}
	return s
}

// show returns a figure as text: its steps, each with the name of its point behind a colon if it has one, and behind a bar its goals.
func show(f api.Figure) string {
	var steps, goals []string
	for _, s := range f.Steps {
		text := row(stepWords(), s.Kind, s.Args, s.Ratio)
		if s.Point != "" {
			text += ":" + s.Point
		}
		steps = append(steps, text)
	}
	for _, g := range f.Goals {
		goals = append(goals, row(factWords(), g.Kind, g.Args, g.Ratio))
	}
	return strings.Join(steps, ", ") + " | " + strings.Join(goals, ", ")
}

// read returns the kind with one of the words (-1 for other words), the numbers and the Ratio behind it; a sign = stands before the Ratio.
func read(words []string, s string) (kind int, args []int, ratio api.Rat) {
	l := strings.Fields(s)
	for _, word := range l[1:] {
		if text, found := strings.CutPrefix(word, "="); found {
			ratio = number(text)
			continue
		}
		n, err := strconv.Atoi(word)
		if err != nil {
			panic(s)
		}
		args = append(args, n)
	}
	return slices.Index(words, l[0]), args, ratio
}

// figure returns the figure with the steps and the goals in two lists. They are written as by show, but with a sign = before each Ratio.
func figure(steps, goals string) api.Figure {
	var f api.Figure
	for _, s := range split(steps) {
		text, point, _ := strings.Cut(s, ":")
		kind, args, ratio := read(stepWords(), text)
		f.Steps = append(f.Steps, api.Step{Kind: kind, Point: point, Args: args, Ratio: ratio})
	}
	for _, s := range split(goals) {
		kind, args, ratio := read(factWords(), s)
		f.Goals = append(f.Goals, api.Fact{Kind: kind, Args: args, Ratio: ratio})
	}
	return f
}

// split returns the parts of s between commas.
func split(s string) []string {
	if s == "" {
		return nil
	}
	return strings.Split(s, ", ")
}

// expectFigure fails unless Figure returns the figure with the text want for the program that s denotes.
func expectFigure(t *testing.T, s, want string) {
	t.Helper()
	f, at, e := lower.Figure(programOf(t, s))
	if got := show(f); got != want || at != 0 || e != api.OK {
		t.Fatalf("Figure of %q is %s, %d, %d, want %s", s, got, at, e, want)
	}
}

// expectFigureError fails unless Figure returns the index at and the error e for the program.
func expectFigureError(t *testing.T, p api.Program, at int, e api.Errno) {
	t.Helper()
	f, gotAt, gotE := lower.Figure(p)
	if len(f.Steps) > 0 || len(f.Goals) > 0 || gotAt != at || gotE != e {
		t.Fatalf("Figure of %v is %s, %d, %d, want %d, %d", p, show(f), gotAt, gotE, at, e)
	}
}

// expectRight fails unless Right returns want.
func expectRight(t *testing.T, f api.Figure, want api.Errno) {
	t.Helper()
	if got := lower.Right(f); got != want {
		t.Fatalf("Right of %s is %d, want %d", show(f), got, want)
	}
}

// pool returns the names that random programs have.
func pool() []string {
	return strings.Fields("A B C D E F G H P Q R S l m n k c d o M1 lines " + strings.Repeat("z", api.MaxName))
}

// author writes random right programs. It knows the sorts of the names that it has defined.
type author struct {
	r     *rand.Rand
	known map[string]int
}

// choose returns a name that is known as the sort, SortNone for a new one, or the empty string if there is none.
func (a author) choose(sort int) string {
	var l []string
	for _, name := range pool() {
		if a.known[name] == sort {
			l = append(l, name)
		}
	}
	if len(l) == 0 {
		return ""
	}
	return l[a.r.Intn(len(l))]
}

// argument returns an expression for the parameter, with at most so many levels if that is possible.
func (a author) argument(param, levels int) api.Expr {
	if param == api.SortNone {
		param = api.SortLine + a.r.Intn(2)
	}
	if levels < 2 || a.r.Intn(3) > 0 {
		if s := a.choose(param); s != "" {
			return api.Expr{Kind: api.ExName, Name: s}
		}
	}
	return a.construction(param, levels)
}

// construction returns a construction of the sort, with at most so many levels if that is possible.
func (a author) construction(sort, levels int) api.Expr {
	var kinds []int
	for kind := range 100 {
		if ast.Sort(kind) == sort {
			kinds = append(kinds, kind)
		}
	}
	x := api.Expr{Kind: kinds[a.r.Intn(len(kinds))]}
	if levels < 2 && sort == api.SortLine { // points have names, which the first statement defines
		x.Kind = api.ExLine
	}
	for _, param := range ast.Params(x.Kind) {
		x.Args = append(x.Args, a.argument(param, levels-1))
	}
	if x.Kind == api.ExDivide || x.Kind == api.ExIsRatio {
		x.Ratio = rational.Frac(a.r.Intn(41)-20, 1+a.r.Intn(9))
	}
	return x
}

// stmt returns a statement of this kind, false if there is no name left for it.
func (a author) stmt(kind int) (api.Stmt, bool) {
	s := api.Stmt{Kind: kind}
	if kind != api.StPoints {
		s.Expr = a.construction(kind-1, 1+a.r.Intn(4)) // the sort of a kind of statements is one less
	}
	n := 1
	switch kind {
	case api.StPoints:
		n = 1 + a.r.Intn(3)
	case api.StProve:
		n = 0
	}
	for range n {
		name := a.choose(api.SortNone)
		if name == "" {
			return s, len(s.Names) > 0
		}
		s.Names = append(s.Names, name)
		a.known[name] = max(api.SortPoint, kind-1)
	}
	return s, true
}

// randomProgram returns a right program of at most n + 1 statements. Its figure can be too large.
func randomProgram(r *rand.Rand, n int) api.Program {
	a := author{r, map[string]int{}}
	first, _ := a.stmt(api.StPoints)
	p := api.Program{Stmts: []api.Stmt{first}}
	for range r.Intn(n + 1) {
		if s, ok := a.stmt(1 + r.Intn(5)); ok {
			p.Stmts = append(p.Stmts, s)
		}
	}
	return p
}

// randomFigure returns the figure of a random program of at most n + 1 statements.
func randomFigure(t *testing.T, r *rand.Rand, n int) api.Figure {
	t.Helper()
	for {
		p := randomProgram(r, n)
		if at, e := scope.Check(p); e != api.OK {
			t.Fatalf("Check of %q returns %d, %d", textOf(t, p), at, e)
		}
		f, _, e := lower.Figure(p)
		if e == api.OK {
			return f
		}
	}
}
