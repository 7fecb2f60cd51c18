package problem_test

import (
	"math/rand"
	"slices"
	"strconv"
	"strings"
	"testing"

	"geoprover/api"
	"geoprover/lower"
	"geoprover/parser"
	"geoprover/polytext"
	"geoprover/predicate"
	"geoprover/problem"
	"geoprover/rational"
)

// rounds is the number of pseudo-random cases of a test.
const rounds = 300

// newSource returns a generator with a fixed seed, so that each run tests the same figures.
func newSource() *rand.Rand { return rand.New(rand.NewSource(25)) }

// number returns the number with the text s.
func number(s string) api.Rat {
	a, e := rational.Read(s)
	if e != api.OK {
		panic(s)
	}
	return a
}

// names returns the names of all variables: v0, v1 and so on.
func names() []string {
	l := make([]string, api.MaxVars)
	for v := range l {
		l[v] = "v" + strconv.Itoa(v)
	}
	return l
}

// read returns the polynomial with the text s.
func read(s string) api.Poly {
	p, _, e := polytext.Read(s, names())
	if e != api.OK {
		panic(s)
	}
	return p
}

// show returns the texts of polynomials with a semicolon and a space between them.
func show(l ...api.Poly) string {
	var texts []string
	for _, p := range l {
		s, e := polytext.Print(p, names())
		if e != api.OK {
			s = "the polynomial with the error " + strconv.Itoa(int(e))
		}
		texts = append(texts, s)
	}
	return strings.Join(texts, "; ")
}

// stepWords returns the words that stand for the kinds of steps in the texts of figures, by their numbers.
func stepWords() []string {
	return []string{"", "free", "divide", "shift", "turn", "online", "oncircle", "foot", "mirror", "meet", "other", "center", "cut", "cross", "apex"}
}

// factWords returns the words of the kinds of facts, by their numbers.
func factWords() []string {
	return []string{"", "collinear", "parallel", "perpendicular", "congruent", "midpoint", "concyclic", "angle", "same", "ratio"}
}

// row returns the kind with one of the words (-1 for other words), the numbers and the Ratio behind it; a sign = stands before the Ratio.
func row(words []string, s string) (kind int, args []int, ratio api.Rat) {
	l := strings.Fields(s)
	for _, word := range l[1:] {
		if text, found := strings.CutPrefix(word, "="); found {
			ratio = number(text)
			continue
		}
		n, err := strconv.Atoi(word)
		if err != nil {
			panic(s)
		}
		args = append(args, n)
	}
	return slices.Index(words, l[0]), args, ratio
}

// figure returns the figure with these steps, between which stand a comma and a space, as are between the goals behind a bar. A name of a point stands behind a colon.
func figure(s string) api.Figure {
	steps, goals, _ := strings.Cut(s, " | ")
	var f api.Figure
	for _, text := range split(steps) {
		text, point, _ := strings.Cut(text, ":")
		kind, args, ratio := row(stepWords(), text)
		f.Steps = append(f.Steps, api.Step{Kind: kind, Point: point, Args: args, Ratio: ratio})
	}
	for _, text := range split(goals) {
		kind, args, ratio := row(factWords(), text)
		f.Goals = append(f.Goals, api.Fact{Kind: kind, Args: args, Ratio: ratio})
	}
	return f
}

// split returns the parts of s between commas with a space behind them.
func split(s string) []string {
	if s == "" {
		return nil
	}
	return strings.Split(s, ", ")
}

// many returns n equal steps.
func many(step string, n int) string {
	return strings.TrimSuffix(strings.Repeat(step+", ", n), ", ")
}

// figureOf returns the figure of a program.
func figureOf(t *testing.T, source string) api.Figure {
	t.Helper()
	p, at, e := parser.Program(source)
	if e != api.OK {
		t.Fatalf("the program %q has the error %d at %d", source, e, at)
	}
	f, at, e := lower.Figure(p)
	if e != api.OK {
		t.Fatalf("the program %q has the error %d in the statement %d", source, e, at)
	}
	return f
}

// makeOf returns the problem of f.
func makeOf(t *testing.T, f api.Figure) api.Problem {
	t.Helper()
	p, e := problem.Make(f)
	if e != api.OK {
		t.Fatalf("Make of %v has the error %d", f, e)
	}
	return p
}

// isZero reports whether p has no parts.
func isZero(p api.Problem) bool {
	return len(p.Figure.Steps)+len(p.Figure.Goals)+len(p.Frame.Coords)+len(p.Frame.Vars)+len(p.Hyps)+len(p.Conds)+len(p.Goals) == 0
}

// expectError fails unless Make returns the error e for f, and no problem.
func expectError(t *testing.T, f api.Figure, e api.Errno) {
	t.Helper()
	if p, got := problem.Make(f); got != e || !isZero(p) {
		t.Errorf("Make of a figure with %d steps and the goals %v has the error %d, want %d", len(f.Steps), f.Goals, got, e)
	}
}

// expectText fails unless the text of the problem of f has the lines want.
func expectText(t *testing.T, f api.Figure, want ...string) {
	t.Helper()
	got, e := problem.Text(makeOf(t, f))
	if e != api.OK || got != lines(want) {
		t.Errorf("the text of %v is\n%s%d, want\n%s", f, got, e, lines(want))
	}
}

// lines returns a text of lines, all of which end with a line feed.
func lines(l []string) string {
	var text strings.Builder
	for _, line := range l {
		text.WriteString(line + "\n")
	}
	return text.String()
}

// randomFigure returns a valid figure of three free points, at most n further steps of any kind, some with names, and at most three goals.
func randomFigure(r *rand.Rand, n int) api.Figure {
	f := figure("free:A, free, free:C")
	for range r.Intn(n + 1) {
		s := api.Step{Kind: api.StepFree + r.Intn(api.StepApex)}
		for range lower.Arity(s.Kind) {
			s.Args = append(s.Args, r.Intn(len(f.Steps)))
		}
		if s.Kind == api.StepDivide {
			s.Ratio = rational.Frac(r.Intn(9)-4, 1+r.Intn(3))
		}
		if r.Intn(2) == 0 {
			s.Point = "P" + strconv.Itoa(len(f.Steps))
		}
		f.Steps = append(f.Steps, s)
	}
	for range r.Intn(4) {
		f.Goals = append(f.Goals, randomFact(r, len(f.Steps)))
	}
	return f
}

// randomFact returns a right fact about so many points.
func randomFact(r *rand.Rand, points int) api.Fact {
	f := api.Fact{Kind: api.FactCollinear + r.Intn(api.FactRatio)}
	for range predicate.Arity(f.Kind) {
		f.Args = append(f.Args, r.Intn(points))
	}
	if f.Kind == api.FactRatio {
		f.Ratio = rational.Frac(r.Intn(9)-4, 1+r.Intn(3))
	}
	return f
}
