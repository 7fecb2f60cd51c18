package hypotheses_test

import (
	"math/rand"
	"slices"
	"strings"
	"testing"

	"geoprover/api"
	"geoprover/lower"
	"geoprover/plane"
	"geoprover/poly"
	"geoprover/rational"
)

// degreeIn returns the greatest sum of the exponents of x and y in a term of p.
func degreeIn(p api.Poly, x, y int) int {
	degree := 0
	for exponents := range of(p) {
		degree = max(degree, exponents[x]+exponents[y])
	}
	return degree
}

// P22.4, P22.5
func TestDegreesAndVariables(t *testing.T) {
	r, degrees := newSource(), map[int]int{}
	for range rounds {
		f := randomFigure(r, 7)
		x := frameOf(t, f)
		for i, s := range f.Steps {
			limit := 1
			if s.Kind == api.StepCut || s.Kind == api.StepCross || s.Kind == api.StepApex {
				limit = 2
			}
			first := slices.Index(x.Vars, api.Var{Kind: api.VarDependent, Step: i})
			if s.Kind == api.StepOnCircle {
				first = slices.Index(x.Vars, api.Var{Kind: api.VarDependent, Step: i, Number: 1})
			}
			for _, p := range stepOf(t, f, x, i) {
				degree := degreeIn(p, first, first+1)
				if degree > limit {
					t.Fatalf("%s has the degree %d in the coordinates of the point %d of %v", show(p), degree, i, f)
				}
				degrees[10*s.Kind+degree]++
				for _, v := range poly.Vars(p) {
					if x.Vars[v].Step > i {
						t.Fatalf("%s in the step %d of %v contains a variable of the step %d", show(p), i, f, x.Vars[v].Step)
					}
				}
			}
		}
	}
	for kind := api.StepOnCircle; kind <= api.StepApex; kind++ {
		if degrees[10*kind+1] == 0 && degrees[10*kind+2] == 0 {
			t.Errorf("the coordinates do not occur in the hypotheses of steps of the kind %d", kind)
		}
	}
	for _, kind := range []int{api.StepCut, api.StepCross, api.StepApex} {
		if degrees[10*kind+2] == 0 {
			t.Errorf("no hypothesis of a step of the kind %d is quadratic", kind)
		}
	}
}

// construct returns the point that package plane computes for a step whose point has dependent variables. The parameter t is that of a StepOnCircle.
func construct(s api.Step, points []api.Point, t api.Rat, branch bool) (api.Point, api.Errno) {
	var p [4]api.Point
	for k, a := range s.Args {
		p[k] = points[a]
	}
	switch s.Kind {
	case api.StepOnCircle:
		return plane.OnCircle(p[0], p[1], t), api.OK
	case api.StepFoot:
		return plane.Foot(p[0], p[1], p[2])
	case api.StepMirror:
		return plane.Mirror(p[0], p[1], p[2])
	case api.StepMeet:
		return plane.Meet(p[0], p[1], p[2], p[3])
	case api.StepOther:
		return plane.Other(p[0], p[1], p[2])
	case api.StepCenter:
		return plane.Center(p[0], p[1], p[2])
	case api.StepCut:
		return plane.Cut(p[0], p[1], p[2], p[3], branch)
	case api.StepCross:
		return plane.Intersect(p[0], p[1], p[2], p[3], branch)
	}
	return plane.Apex(p[0], p[1], branch)
}

// eval returns the value of p.
func eval(t *testing.T, p api.Poly, values []api.Rat) api.Rat {
	t.Helper()
	a, e := poly.Eval(p, values)
	if e != api.OK {
		t.Fatalf("%s has no value: %d", show(p), e)
	}
	return a
}

// solve returns the values of all variables of f, whose frame is x: next returns those of the parameters, and the dependent variables are the coordinates that package plane computes. It returns false if a point does not exist.
func solve(t *testing.T, f api.Figure, x api.Frame, branch bool, next func() api.Rat) ([]api.Rat, bool) {
	t.Helper()
	var values []api.Rat
	var points []api.Point
	for i, s := range f.Steps {
		var param api.Rat
		dependent := false
		for _, v := range x.Vars {
			if v.Step == i && v.Kind == api.VarParam {
				param = next()
				values = append(values, param)
			}
			dependent = dependent || v.Step == i && v.Kind == api.VarDependent
		}
		if dependent {
			p, e := construct(s, points, param, branch)
			if e != api.OK {
				return nil, false
			}
			values = append(values, p.X, p.Y)
		}
		points = append(points, api.Point{X: eval(t, x.Coords[i].X, values), Y: eval(t, x.Coords[i].Y, values)})
	}
	return values, true
}

// expectSolved fails unless the hypotheses of each step of f, whose frame is x, vanish at the values.
func expectSolved(t *testing.T, f api.Figure, x api.Frame, values []api.Rat) {
	t.Helper()
	for i := range f.Steps {
		for _, p := range stepOf(t, f, x, i) {
			if a := eval(t, p, values); rational.Sign(a) != 0 {
				t.Fatalf("%s in the step %d of %v has the value %s", show(p), i, f, rational.Text(a))
			}
		}
	}
}

// random returns a function that returns random numbers.
func random(r *rand.Rand) func() api.Rat {
	return func() api.Rat { return rational.Frac(r.Intn(39)-19, 1+r.Intn(3)) }
}

// P22.6: random figures.
func TestSolutions(t *testing.T) {
	r, met := newSource(), map[int]int{}
	for range 40 * rounds {
		f := randomFigure(r, 6)
		x := frameOf(t, f)
		values, ok := solve(t, f, x, r.Intn(2) == 0, random(r))
		if !ok {
			continue
		}
		expectSolved(t, f, x, values)
		for _, s := range f.Steps {
			met[s.Kind]++
		}
	}
	for kind := api.StepOnCircle; kind < api.StepApex; kind++ {
		if met[kind] < rounds/20 {
			t.Errorf("only %d steps of the kind %d", met[kind], kind)
		}
	}
}

// P22.6: steps with two solutions, at points whose distances are rational.
func TestTwoSolutions(t *testing.T) {
	for _, c := range []struct{ steps, values string }{
		{"free, free, free, free, cut 0 1 2 3", "7 2 3 6 6"},
		{"free, free, free, free, cut 1 0 2 3", "-1/2 -11 12 -11 25"},
		{"free, free, free, free, cut 0 1 2 3", "5 1 1 1 0"}, // the line touches the circle
		{"free, free, free, free, cross 0 2 1 3", "6 3 4 9 4"},
		{"free, free, free, free, cross 1 3 0 2", "6 5 0 1 0"},
		{"free, free, free, free, cross 0 2 1 3", "5 0 2 5 3"}, // the circles touch each other
		{"free, free, turn 1 1 0, cut 1 2 1 0, foot 1 0 3, meet 0 2 1 3", "4"},
		{"free, free, free, free, cut 0 1 2 3, cut 1 0 2 4, mirror 4 2 3", "7 2 3 6 6"},
	} {
		f := figure(c.steps)
		x := frameOf(t, f)
		for _, branch := range []bool{false, true} {
			for _, scale := range []string{"1", "-3", "2/7"} {
				rest := strings.Fields(c.values)
				values, ok := solve(t, f, x, branch, func() api.Rat {
					a := rational.Mul(number(rest[0]), number(scale))
					rest = rest[1:]
					return a
				})
				if !ok || len(rest) > 0 {
					t.Fatalf("%s has no points at %s", c.steps, c.values)
				}
				expectSolved(t, f, x, values)
			}
		}
	}
}

// P22.6: the apex of a segment never has rational coordinates. Its hypotheses vanish for x = 1/2 v0 and y^2 = 3/4 v0^2.
func TestApexSolutions(t *testing.T) {
	f := figure("free, free, apex 0 1")
	for _, p := range stepOf(t, f, frameOf(t, f), 2) {
		q, e := poly.Subst(p, 1, read("1/2*v0"))
		if got := show(q); got != "v2^2 - 3/4*v0^2" || e != api.OK {
			t.Errorf("%s is %s, %d for x = 1/2 v0", show(p), got, e)
		}
	}
}

// P22.6: at other points a hypothesis does not vanish.
func TestNoSolutions(t *testing.T) {
	r, met := newSource(), map[int]int{}
	for range 4 * rounds {
		f := figure("free, free, free, free")
		s := api.Step{Kind: api.StepOnCircle + r.Intn(api.StepApex-api.StepOnCircle), Args: r.Perm(4)}
		s.Args = s.Args[:lower.Arity(s.Kind)]
		f.Steps = append(f.Steps, s)
		x := frameOf(t, f)
		values, ok := solve(t, f, x, r.Intn(2) == 0, random(r))
		if !ok {
			continue
		}
		met[s.Kind]++
		y := len(values) - 1 - r.Intn(2)
		values[y] = rational.Add(values[y], rational.Frac(1, 1000003))
		vanish := true
		for _, p := range stepOf(t, f, x, 4) {
			vanish = vanish && rational.Sign(eval(t, p, values)) == 0
		}
		if vanish {
			t.Fatalf("the hypotheses of %v vanish at another point, too", f)
		}
	}
	for _, kind := range []int{api.StepOnCircle, api.StepFoot, api.StepMirror, api.StepMeet, api.StepOther, api.StepCenter} {
		if met[kind] < rounds/4 {
			t.Errorf("only %d steps of the kind %d", met[kind], kind)
		}
	}
}
