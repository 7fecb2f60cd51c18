package instance_test

import (
	"math/rand"
	"slices"
	"strconv"
	"strings"
	"testing"

	"geoprover/api"
	"geoprover/coordinates"
	"geoprover/instance"
	"geoprover/lower"
	"geoprover/plane"
	"geoprover/poly"
	"geoprover/predicate"
	"geoprover/problem"
	"geoprover/rational"
)

// rounds is the number of pseudo-random cases of a test.
const rounds = 300

// newSource returns a generator with a fixed seed, so that each run tests the same figures.
func newSource() *rand.Rand { return rand.New(rand.NewSource(26)) }

// number returns the number with the text s.
func number(s string) api.Rat {
	a, e := rational.Read(s)
	if e != api.OK {
		panic(s)
	}
	return a
}

// stepWords returns the words that stand for the kinds of steps in the texts of figures, by their numbers.
func stepWords() []string {
	return []string{"", "free", "divide", "shift", "turn", "online", "oncircle", "foot", "mirror", "meet", "other", "center", "cut", "cross", "apex"}
}

// factWords returns the words of the kinds of facts, by their numbers.
func factWords() []string {
	return []string{"", "collinear", "parallel", "perpendicular", "congruent", "midpoint", "concyclic", "angle", "same", "ratio"}
}

// row returns the kind with one of the words (-1 for other words), the numbers and the Ratio behind it; a sign = stands before the Ratio.
func row(words []string, s string) (kind int, args []int, ratio api.Rat) {
	l := strings.Fields(s)
	for _, word := range l[1:] {
		if text, found := strings.CutPrefix(word, "="); found {
			ratio = number(text)
			continue
		}
		n, err := strconv.Atoi(word)
		if err != nil {
			panic(s)
		}
		args = append(args, n)
	}
	return slices.Index(words, l[0]), args, ratio
}

// figure returns the figure with these steps, between which stand a comma and a space, as are between the goals behind a bar. A name of a point stands behind a colon.
func figure(s string) api.Figure {
	steps, goals, _ := strings.Cut(s, " | ")
	var f api.Figure
	for _, text := range split(steps) {
		text, point, _ := strings.Cut(text, ":")
		kind, args, ratio := row(stepWords(), text)
		f.Steps = append(f.Steps, api.Step{Kind: kind, Point: point, Args: args, Ratio: ratio})
	}
	for _, text := range split(goals) {
		kind, args, ratio := row(factWords(), text)
		f.Goals = append(f.Goals, api.Fact{Kind: kind, Args: args, Ratio: ratio})
	}
	return f
}

// split returns the parts of s between commas with a space behind them.
func split(s string) []string {
	if s == "" {
		return nil
	}
	return strings.Split(s, ", ")
}

// many returns n equal steps.
func many(step string, n int) string {
	return strings.TrimSuffix(strings.Repeat(step+", ", n), ", ")
}

// numbers returns the numbers with the texts in s, between which stand spaces.
func numbers(s string) []api.Rat {
	var l []api.Rat
	for _, text := range strings.Fields(s) {
		l = append(l, number(text))
	}
	return l
}

// signs returns a Boolean for each byte of s, true for +.
func signs(s string) []bool {
	var l []bool
	for _, c := range s {
		l = append(l, c == '+')
	}
	return l
}

// points returns the points with the coordinates in s.
func points(s string) []api.Point {
	l := numbers(s)
	var points []api.Point
	for i := 0; i < len(l); i += 2 {
		points = append(points, api.Point{X: l[i], Y: l[i+1]})
	}
	return points
}

// showNumbers returns the texts of numbers with spaces between them.
func showNumbers(l []api.Rat) string {
	var texts []string
	for _, a := range l {
		texts = append(texts, rational.Text(a))
	}
	return strings.Join(texts, " ")
}

// showPoints returns the coordinates of points.
func showPoints(l []api.Point) string {
	var numbers []api.Rat
	for _, p := range l {
		numbers = append(numbers, p.X, p.Y)
	}
	return showNumbers(numbers)
}

// makeOf returns the problem of f.
func makeOf(t *testing.T, f api.Figure) api.Problem {
	t.Helper()
	p, e := problem.Make(f)
	if e != api.OK {
		t.Fatalf("Make of %v has the error %d", f, e)
	}
	return p
}

// atOf returns the instance of f with these values and branches.
func atOf(t *testing.T, f api.Figure, values []api.Rat, branches []bool) api.Instance {
	t.Helper()
	x, step, e := instance.At(f, values, branches)
	if step != 0 || e != api.OK {
		t.Fatalf("At of %v returns %d, %d for %s", f, step, e, showNumbers(values))
	}
	return x
}

// expectAt fails unless At returns the instance with these values, branches and points.
func expectAt(t *testing.T, steps, values, branches, want string) {
	t.Helper()
	x, step, e := instance.At(figure(steps), numbers(values), signs(branches))
	if got := showPoints(x.Points); got != want || step != 0 || e != api.OK {
		t.Errorf("At of %s returns %s, %d, %d for %s, want %s", steps, got, step, e, values, want)
	}
	if showNumbers(x.Values) != values || !slices.Equal(x.Branches, signs(branches)) {
		t.Errorf("the instance of %s with %s has the values %s and the branches %v", steps, values, showNumbers(x.Values), x.Branches)
	}
}

// expectAtError fails unless At returns this step and error, and no instance.
func expectAtError(t *testing.T, f api.Figure, values []api.Rat, branches []bool, step int, e api.Errno) {
	t.Helper()
	x, gotStep, got := instance.At(f, values, branches)
	if got != e || gotStep != step || len(x.Values)+len(x.Branches)+len(x.Points) > 0 {
		t.Errorf("At of %v returns %s, %d, %d for %s, want %d, %d", f, showPoints(x.Points), gotStep, got, showNumbers(values), step, e)
	}
}

// randomFigure returns a valid figure of two or three free points, at most n further steps of any kind, and two goals. Many of its circles meet in a rational point.
func randomFigure(r *rand.Rand, n int) api.Figure {
	f := figure("free, free, free")
	f.Steps = f.Steps[:2+r.Intn(2)]
	for range r.Intn(n + 1) {
		s := api.Step{Kind: api.StepFree + r.Intn(api.StepApex-r.Intn(2))}
		for range lower.Arity(s.Kind) {
			s.Args = append(s.Args, r.Intn(len(f.Steps)))
		}
		if s.Kind == api.StepDivide {
			s.Ratio = rational.Frac(r.Intn(9)-4, 1+r.Intn(3))
		}
		if s.Kind == api.StepCut && r.Intn(4) > 0 {
			s.Args[3] = s.Args[r.Intn(2)] // the circle passes through a point of the line
		}
		if s.Kind == api.StepCross && r.Intn(4) > 0 {
			s.Args[3] = s.Args[1]
		}
		f.Steps = append(f.Steps, s)
	}
	for range 2 {
		f.Goals = append(f.Goals, randomFact(r, len(f.Steps)))
	}
	return f
}

// randomFact returns a right fact about so many points.
func randomFact(r *rand.Rand, points int) api.Fact {
	f := api.Fact{Kind: api.FactCollinear + r.Intn(api.FactRatio)}
	for range predicate.Arity(f.Kind) {
		f.Args = append(f.Args, r.Intn(points))
	}
	if f.Kind == api.FactRatio {
		f.Ratio = rational.Frac(r.Intn(9)-4, 1+r.Intn(3))
	}
	return f
}

// randomChoices returns values and branches for f.
func randomChoices(t *testing.T, r *rand.Rand, f api.Figure) (values []api.Rat, branches []bool) {
	t.Helper()
	params, solutions, e := instance.Choices(f)
	if e != api.OK {
		t.Fatalf("Choices of %v has the error %d", f, e)
	}
	for range params {
		values = append(values, rational.Frac(r.Intn(9)-4, 1+r.Intn(2)))
	}
	for range solutions {
		branches = append(branches, r.Intn(2) == 0)
	}
	return values, branches
}

// construct returns the point that package plane computes for a step whose point has dependent variables. The parameter t is that of a StepOnCircle.
func construct(s api.Step, points []api.Point, t api.Rat, branch bool) (api.Point, api.Errno) {
	var p [4]api.Point
	for k, a := range s.Args {
		p[k] = points[a]
	}
	switch s.Kind {
	case api.StepOnCircle:
		return plane.OnCircle(p[0], p[1], t), api.OK
	case api.StepFoot:
		return plane.Foot(p[0], p[1], p[2])
	case api.StepMirror:
		return plane.Mirror(p[0], p[1], p[2])
	case api.StepMeet:
		return plane.Meet(p[0], p[1], p[2], p[3])
	case api.StepOther:
		return plane.Other(p[0], p[1], p[2])
	case api.StepCenter:
		return plane.Center(p[0], p[1], p[2])
	case api.StepCut:
		return plane.Cut(p[0], p[1], p[2], p[3], branch)
	case api.StepCross:
		return plane.Intersect(p[0], p[1], p[2], p[3], branch)
	}
	return plane.Apex(p[0], p[1], branch)
}

// solution is the points of a figure and the values of its variables, or the first step without a point, and its error.
type solution struct {
	points    []api.Point
	variables []api.Rat
	step      int
	e         api.Errno
}

// solve computes the solution of f from the coordinates of its frame, where package plane computes the points with dependent variables.
func solve(t *testing.T, f api.Figure, values []api.Rat, branches []bool) solution {
	t.Helper()
	x, e := coordinates.Of(f)
	if e != api.OK {
		t.Fatalf("%v has no frame: %d", f, e)
	}
	var l solution
	for i, s := range f.Steps {
		var param api.Rat
		dependent := false
		for _, v := range x.Vars {
			if v.Step == i && v.Kind == api.VarParam {
				param, values = values[0], values[1:]
				l.variables = append(l.variables, param)
			}
			dependent = dependent || v.Step == i && v.Kind == api.VarDependent
		}
		if dependent {
			branch := false
			if s.Kind >= api.StepCut {
				branch, branches = branches[0], branches[1:]
			}
			p, e := construct(s, l.points, param, branch)
			if e != api.OK {
				return solution{step: i, e: e}
			}
			l.variables = append(l.variables, p.X, p.Y)
		}
		X, _ := poly.Eval(x.Coords[i].X, l.variables)
		Y, _ := poly.Eval(x.Coords[i].Y, l.variables)
		l.points = append(l.points, api.Point{X: X, Y: Y})
	}
	return l
}
