package problem_test

import (
	"slices"
	"strings"
	"testing"

	"geoprover/api"
	"geoprover/conditions"
	"geoprover/coordinates"
	"geoprover/goals"
	"geoprover/hypotheses"
	"geoprover/poly"
	"geoprover/problem"
)

// P25.1: the figure without steps, and figures without goals.
func TestMakeNothing(t *testing.T) {
	for _, f := range []api.Figure{{}, {Steps: []api.Step{}, Goals: []api.Fact{}}} {
		if p := makeOf(t, f); !isZero(p) {
			t.Errorf("the problem of nothing is %v", p)
		}
	}
	p := makeOf(t, figure("free"))
	if len(p.Figure.Steps) != 1 || len(p.Frame.Coords) != 1 || len(p.Frame.Vars)+len(p.Hyps)+len(p.Conds)+len(p.Goals) != 0 {
		t.Errorf("the problem of a point is %v", p)
	}
	p = makeOf(t, figure("free, free, apex 0 1"))
	if got := show(p.Hyps...) + " | " + show(p.Conds...); got != "v2^2 + v1^2 - v0^2; v2^2 + v1^2 - 2*v0*v1 | v0^2" || len(p.Goals) != 0 {
		t.Errorf("the problem of an apex has %s", got)
	}
}

// P25.1: the example of the chapter.
func TestMakeExample(t *testing.T) {
	p := makeOf(t, figureOf(t, "points A, B, C; M := midpoint(B, C); prove collinear(A, B, M);"))
	if len(p.Hyps)+len(p.Conds) != 0 || len(p.Goals) != 1 || show(p.Goals[0]...) != "1/2*v0*v2" {
		t.Errorf("the problem is %v", p)
	}
}

// P25.1, P5: the hypotheses and the condition of each kind of step behind three free points, by the table of DOC.md.
func TestMakeKinds(t *testing.T) {
	for step, want := range map[string]string{
		"free":             " | ",
		"divide 0 1 =-1/3": " | ",
		"shift 0 1 2":      " | ",
		"turn 0 1 2":       " | ",
		"online 1 2":       " | ",
		"oncircle 0 1":     "v3^2*v4 + v4 - v0*v3^2 + v0; v3^2*v5 + v5 + 2*v0*v3 | v3^2 + 1",
		"foot 2 0 1":       "v0*v4; v0*v3 - v0*v1 | v0^2",
		"mirror 2 0 1":     "v0*v3 - v0*v1; v0*v4 + v0*v2 | v0^2",
		"meet 0 1 1 2":     "v0*v4; v1*v4 - v0*v4 - v2*v3 + v0*v2 | v0*v2",
		"other 0 1 2":      "v0^2*v3 - 2*v0^2*v1; v0^2*v4 | v0^2",
		"center 0 1 2":     "2*v0*v3 - v0^2; 2*v2*v4 + 2*v1*v3 - v2^2 - v1^2 | v0*v2",
		"cut 0 1 2 0":      "v0*v4; v4^2 - 2*v2*v4 + v3^2 - 2*v1*v3 | v0^2",
		"cross 0 1 1 2":    "v4^2 + v3^2 - v0^2; v4^2 + v3^2 - 2*v0*v3 - v2^2 - v1^2 + 2*v0*v1 | v0^2",
		"apex 0 1":         "v4^2 + v3^2 - v0^2; v4^2 + v3^2 - 2*v0*v3 | v0^2",
		"apex 0 2":         "v4^2 + v3^2 - v2^2 - v1^2; v4^2 - 2*v2*v4 + v3^2 - 2*v1*v3 | v2^2 + v1^2",
		"apex 2 2":         "v4^2 - 2*v2*v4 + v3^2 - 2*v1*v3 + v2^2 + v1^2; v4^2 - 2*v2*v4 + v3^2 - 2*v1*v3 + v2^2 + v1^2 | 0",
		"meet 0 1 1 0":     "v0*v4; -v0*v4 | 0",
	} {
		p := makeOf(t, figure("free, free, free, "+step))
		if got := show(p.Hyps...) + " | " + show(p.Conds...); got != want {
			t.Errorf("the step %s has %s, want %s", step, got, want)
		}
	}
}

// P25.1: the polynomials of each kind of goal, by the list of DOC.md.
func TestMakeGoals(t *testing.T) {
	for facts, want := range map[string]string{
		"collinear 0 1 2, parallel 1 0 0 2, perpendicular 0 1 0 2":               "v0*v2 | -v0*v2 | v0*v1",
		"congruent 0 2 0 1, midpoint 2 0 1, concyclic 0 1 2 1":                   "v2^2 + v1^2 - v0^2 | -2*v1 + v0; -2*v2 | 0",
		"angle 0 1 0 2 0 1 0 1, same 0 1, ratio 0 2 0 1 =-1/2":                   "v0^3*v2 | -v0; 0 | v2^2 + v1^2 + 1/2*v0^2",
		"same 2 2, same 2 1, same 0 2":                                           "0; 0 | v1 - v0; v2 | -v1; -v2",
		many("same 0 1", 8):                                                      "-v0; 0" + strings.Repeat(" | -v0; 0", 7),
		"ratio 0 1 0 2 =1, congruent 0 1 0 2, collinear 1 1 0, collinear 2 1 0":  "-v2^2 - v1^2 + v0^2 | -v2^2 - v1^2 + v0^2 | 0 | -v0*v2",
		"concyclic 0 1 2 0, concyclic 0 0 1 1, angle 0 1 0 2 0 1 1 0, same 1 0 ": "0 | 0 | -v0^3*v2 | v0; 0",
	} {
		var got []string
		for _, l := range makeOf(t, figure("free, free, free | "+facts)).Goals {
			got = append(got, show(l...))
		}
		if text := strings.Join(got, " | "); text != want {
			t.Errorf("the goals %s are\n%s, want\n%s", facts, text, want)
		}
	}
}

// samePolys reports whether two lists have equal polynomials.
func samePolys(a, b []api.Poly) bool { return slices.EqualFunc(a, b, poly.Equal) }

// P25.1, P5: the parts of the problems of random figures are those of the lower layers, step by step and goal by goal.
func TestMakeRandom(t *testing.T) {
	r := newSource()
	kinds, facts := map[int]int{}, map[int]int{}
	for range rounds {
		f := randomFigure(r, 6)
		p, e := problem.Make(f)
		x, _ := coordinates.Of(f)
		var hyps, conds []api.Poly
		for i, s := range f.Steps {
			l, _ := hypotheses.Step(f, x, i)
			hyps = append(hyps, l...)
			kinds[s.Kind]++
		}
		l, _ := conditions.Of(f)
		for _, c := range l {
			q, _ := conditions.Poly(c, f, x)
			conds = append(conds, q)
		}
		if e != api.OK || !samePolys(p.Hyps, hyps) || !samePolys(p.Conds, conds) || !coordinates.Right(f, p.Frame) || len(p.Goals) != len(f.Goals) {
			t.Fatalf("Make of %v returns %v, %d", f, p, e)
		}
		for i, g := range f.Goals {
			l, _ := goals.Polys(g, x)
			if !samePolys(p.Goals[i], l) || !sameFact(p.Figure.Goals[i], g) {
				t.Fatalf("the goal %d of %v is %s", i, f, show(p.Goals[i]...))
			}
			facts[g.Kind]++
		}
		if !slices.EqualFunc(p.Figure.Steps, f.Steps, sameStep) || len(p.Figure.Goals) != len(f.Goals) {
			t.Fatalf("the problem of %v has the figure %v", f, p.Figure)
		}
	}
	for kind := api.StepFree; kind <= api.StepApex; kind++ {
		if kinds[kind] < rounds/10 {
			t.Errorf("only %d steps of the kind %d", kinds[kind], kind)
		}
	}
	for kind := api.FactCollinear; kind <= api.FactRatio; kind++ {
		if facts[kind] < rounds/20 {
			t.Errorf("only %d goals of the kind %d", facts[kind], kind)
		}
	}
}

// sameRat reports whether a and b are the same number.
func sameRat(a, b api.Rat) bool {
	return a.Num.Neg == b.Num.Neg && slices.Equal(a.Num.Abs, b.Num.Abs) && slices.Equal(a.Den, b.Den)
}

// sameStep reports whether s and u are equal.
func sameStep(s, u api.Step) bool {
	return s.Kind == u.Kind && s.Point == u.Point && slices.Equal(s.Args, u.Args) && sameRat(s.Ratio, u.Ratio)
}

// sameFact reports whether f and g are equal.
func sameFact(f, g api.Fact) bool {
	return f.Kind == g.Kind && slices.Equal(f.Args, g.Args) && sameRat(f.Ratio, g.Ratio)
}
