package refute_test

import (
	"math/rand"
	"slices"
	"strconv"
	"strings"
	"testing"

	"geoprover/api"
	"geoprover/instance"
	"geoprover/lower"
	"geoprover/plane"
	"geoprover/predicate"
	"geoprover/problem"
	"geoprover/rational"
	"geoprover/refute"
)

// rounds is the number of pseudo-random cases of a test.
const rounds = 300

// newSource returns a generator with a fixed seed, so that each run tests the same figures.
func newSource() *rand.Rand { return rand.New(rand.NewSource(27)) }

// number returns the number with the text s.
func number(s string) api.Rat {
	a, e := rational.Read(s)
	if e != api.OK {
		panic(s)
	}
	return a
}

// stepWords returns the words that stand for the kinds of steps in the texts of figures, by their numbers.
func stepWords() []string {
	return []string{"", "free", "divide", "shift", "turn", "online", "oncircle", "foot", "mirror", "meet", "other", "center", "cut", "cross", "apex"}
}

// factWords returns the words of the kinds of facts, by their numbers.
func factWords() []string {
	return []string{"", "collinear", "parallel", "perpendicular", "congruent", "midpoint", "concyclic", "angle", "same", "ratio"}
}

// row returns the kind with one of the words (-1 for other words), the numbers and the Ratio behind it; a sign = stands before the Ratio.
func row(words []string, s string) (kind int, args []int, ratio api.Rat) {
	l := strings.Fields(s)
	for _, word := range l[1:] {
		if text, found := strings.CutPrefix(word, "="); found {
			ratio = number(text)
			continue
		}
		n, err := strconv.Atoi(word)
		if err != nil {
			panic(s)
		}
		args = append(args, n)
	}
	return slices.Index(words, l[0]), args, ratio
}

// figure returns the figure with these steps, between which stand a comma and a space, as are between the goals behind a bar. A name of a point stands behind a colon.
func figure(s string) api.Figure {
	steps, goals, _ := strings.Cut(s, " | ")
	var f api.Figure
	for _, text := range split(steps) {
		text, point, _ := strings.Cut(text, ":")
		kind, args, ratio := row(stepWords(), text)
		f.Steps = append(f.Steps, api.Step{Kind: kind, Point: point, Args: args, Ratio: ratio})
	}
	for _, text := range split(goals) {
		kind, args, ratio := row(factWords(), text)
		f.Goals = append(f.Goals, api.Fact{Kind: kind, Args: args, Ratio: ratio})
	}
	return f
}

// split returns the parts of s between commas with a space behind them.
func split(s string) []string {
	if s == "" {
		return nil
	}
	return strings.Split(s, ", ")
}

// many returns n equal steps.
func many(step string, n int) string {
	return strings.TrimSuffix(strings.Repeat(step+", ", n), ", ")
}

// wrong returns figures with an error in instance.Choices, by this error.
func wrong() map[api.Errno][]string {
	return map[api.Errno][]string{
		api.ErrLarge: {many("free", 41), many("free", 34), "free, " + many("apex 0 0", 33), "free | " + many("same 0 0", 9)},
		api.ErrKind:  {"none", "free, none 0", "free | none"},
		api.ErrArg:   {"free 0", "free, free, divide 0 1", "free, apex 0 0 =1/2", "free | same 0"},
		api.ErrRange: {"apex 0 0", "free, apex 0 1", "free | same 0 1"},
		api.ErrName:  {"free:on", "free, free:1A"},
		api.ErrTwice: {"free:A, free:A"},
	}
}

// show returns the texts of numbers with spaces between them.
func show(l []api.Rat) string {
	var texts []string
	for _, a := range l {
		texts = append(texts, rational.Text(a))
	}
	return strings.Join(texts, " ")
}

// showSigns returns a byte for each of the branches, + for true and - for false.
func showSigns(l []bool) string {
	var text strings.Builder
	for _, b := range l {
		sign := byte('-')
		if b {
			sign = '+'
		}
		text.WriteByte(sign)
	}
	return text.String()
}

// showInstance returns the values, the branches and the coordinates of x.
func showInstance(x api.Instance) string {
	var coords []api.Rat
	for _, p := range x.Points {
		coords = append(coords, p.X, p.Y)
	}
	return show(x.Values) + ";" + showSigns(x.Branches) + "; " + show(coords)
}

// showAll returns the values, the branches and the coordinates of instances.
func showAll(l []api.Instance) string {
	var texts []string
	for _, x := range l {
		texts = append(texts, showInstance(x))
	}
	return strings.Join(texts, "\n")
}

// makeOf returns the problem of f.
func makeOf(t *testing.T, f api.Figure) api.Problem {
	t.Helper()
	p, e := problem.Make(f)
	if e != api.OK {
		t.Fatalf("Make of %v has the error %d", f, e)
	}
	return p
}

// sourceOf returns the problem of a program.
func sourceOf(t *testing.T, source string) api.Problem {
	t.Helper()
	p, at, e := problem.Source(source)
	if e != api.OK {
		t.Fatalf("the program %q has the error %d at %d", source, e, at)
	}
	return p
}

// isZero reports whether x has no parts.
func isZero(x api.Instance) bool { return len(x.Values)+len(x.Branches)+len(x.Points) == 0 }

// choicesOf returns the numbers of parameters and branches of f.
func choicesOf(t *testing.T, f api.Figure) (params, branches int) {
	t.Helper()
	params, branches, e := instance.Choices(f)
	if e != api.OK {
		t.Fatalf("Choices of %v has the error %d", f, e)
	}
	return params, branches
}

// attempt is the instance of a candidate, if it has one, whether it satisfies the problem, and which goals it violates.
type attempt struct {
	instance  api.Instance
	exists    bool
	satisfies bool
	violates  []bool
}

// attempts returns what becomes of the first candidates of p. Whether goals are violated is asked of package predicate.
func attempts(t *testing.T, p api.Problem, count int) []attempt {
	t.Helper()
	var l []attempt
	for k := range count {
		values, branches, e := refute.Nth(p.Figure, k)
		if e != api.OK {
			t.Fatalf("the candidate %d of %v has the error %d", k, p.Figure, e)
		}
		x, _, e := instance.At(p.Figure, values, branches)
		a := attempt{exists: e == api.OK}
		if a.exists {
			a.instance = x
			a.satisfies, _ = instance.Satisfies(p, x)
			for _, g := range p.Figure.Goals {
				holds, e := predicate.Holds(g, x.Points)
				a.violates = append(a.violates, e == api.OK && !holds)
			}
		}
		l = append(l, a)
	}
	return l
}

// randomFigure returns a valid figure of three or four free points, at most n further steps of any kind, and two goals. Many of its circles meet in a rational point.
func randomFigure(r *rand.Rand, n int) api.Figure {
	f := figure("free, free, free, free")
	f.Steps = f.Steps[:3+r.Intn(2)]
	for range r.Intn(n + 1) {
		s := api.Step{Kind: api.StepFree + r.Intn(api.StepApex)}
		if s.Kind == api.StepApex && r.Intn(4) > 0 {
			s.Kind = api.StepCut + r.Intn(2) // few figures without instances
		}
		s.Args = randomArgs(r, lower.Arity(s.Kind), len(f.Steps))
		if s.Kind == api.StepDivide {
			s.Ratio = rational.Frac(r.Intn(9)-4, 1+r.Intn(3))
		}
		if s.Kind == api.StepCut && r.Intn(8) > 0 {
			s.Args[3] = s.Args[r.Intn(2)] // the circle passes through a point of the line
		}
		if s.Kind == api.StepCross && r.Intn(8) > 0 {
			s.Args[3] = s.Args[1]
		}
		f.Steps = append(f.Steps, s)
	}
	f.Goals = []api.Fact{randomFact(r, len(f.Steps)), similar(r, f)}
	return f
}

// randomArgs returns n numbers of so many points, which are different in most cases if there are enough points.
func randomArgs(r *rand.Rand, n, points int) []int {
	l := r.Perm(points)
	for len(l) < n || r.Intn(8) == 0 {
		l = append([]int{r.Intn(points)}, l...)
	}
	return l[:n]
}

// randomFact returns a right fact about so many points.
func randomFact(r *rand.Rand, points int) api.Fact {
	f := api.Fact{Kind: api.FactCollinear + r.Intn(api.FactRatio)}
	f.Args = randomArgs(r, predicate.Arity(f.Kind), points)
	if f.Kind == api.FactRatio {
		f.Ratio = rational.Frac(r.Intn(9)-4, 1+r.Intn(3))
	}
	return f
}

// similar returns the fact about the ratio of two segments of f that holds for its candidate 0, if this has an instance, and another fact if it has none.
func similar(r *rand.Rand, f api.Figure) api.Fact {
	fact := api.Fact{Kind: api.FactRatio, Args: randomArgs(r, 4, len(f.Steps)), Ratio: rational.Of(2)}
	values, branches, _ := refute.Nth(f, 0)
	x, _, e := instance.At(f, values, branches)
	if e != api.OK {
		return fact
	}
	end := func(k int) api.Point { return x.Points[fact.Args[k]] }
	if ratio, e := rational.Div(plane.Norm(end(0), end(1)), plane.Norm(end(2), end(3))); e == api.OK {
		fact.Ratio = ratio
	}
	return fact
}
