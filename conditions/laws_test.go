package conditions_test

import (
	"strings"
	"testing"

	"geoprover/api"
	"geoprover/conditions"
	"geoprover/plane"
	"geoprover/poly"
	"geoprover/rational"
)

// P23.6
func TestSteps(t *testing.T) {
	r := newSource()
	for range rounds {
		f := randomFigure(r, 20)
		last := -1
		for _, c := range ofFigure(t, f) {
			if c.Step <= last || c.Step >= len(f.Steps) {
				t.Fatalf("%s comes behind a condition of the step %d of %v", write(c), last, f)
			}
			last = c.Step
			for _, a := range c.Args {
				if a < 0 || a >= c.Step {
					t.Fatalf("%s of %v has the argument %d", write(c), f, a)
				}
			}
		}
	}
}

// construct returns the point that package plane computes for a step whose point has dependent variables. The parameter t is that of a StepOnCircle.
func construct(s api.Step, points []api.Point, t api.Rat, branch bool) (api.Point, api.Errno) {
	var p [4]api.Point
	for k, a := range s.Args {
		p[k] = points[a]
	}
	switch s.Kind {
	case api.StepOnCircle:
		return plane.OnCircle(p[0], p[1], t), api.OK
	case api.StepFoot:
		return plane.Foot(p[0], p[1], p[2])
	case api.StepMirror:
		return plane.Mirror(p[0], p[1], p[2])
	case api.StepMeet:
		return plane.Meet(p[0], p[1], p[2], p[3])
	case api.StepOther:
		return plane.Other(p[0], p[1], p[2])
	case api.StepCenter:
		return plane.Center(p[0], p[1], p[2])
	case api.StepCut:
		return plane.Cut(p[0], p[1], p[2], p[3], branch)
	case api.StepCross:
		return plane.Intersect(p[0], p[1], p[2], p[3], branch)
	}
	return plane.Apex(p[0], p[1], branch)
}

// walk computes the points of f, whose frame is x, one after the other, as long as they exist: next returns the values of the parameters, and the dependent variables are the coordinates that package plane computes. For each step with dependent variables it calls visit with the points and the variables so far, among them the parameters of the step, and with the error of package plane.
func walk(t *testing.T, f api.Figure, x api.Frame, branch bool, next func() api.Rat, visit func(i int, points []api.Point, values []api.Rat, e api.Errno)) {
	t.Helper()
	var values []api.Rat
	var points []api.Point
	for i, s := range f.Steps {
		var param api.Rat
		dependent := false
		for _, v := range x.Vars {
			if v.Step == i && v.Kind == api.VarParam {
				param = next()
				values = append(values, param)
			}
			dependent = dependent || v.Step == i && v.Kind == api.VarDependent
		}
		if dependent {
			p, e := construct(s, points, param, branch)
			visit(i, points, values, e)
			if e != api.OK {
				return
			}
			values = append(values, p.X, p.Y)
		}
		points = append(points, api.Point{X: eval(t, x.Coords[i].X, values), Y: eval(t, x.Coords[i].Y, values)})
	}
}

// eval returns the value of p.
func eval(t *testing.T, p api.Poly, values []api.Rat) api.Rat {
	t.Helper()
	a, e := poly.Eval(p, values)
	if e != api.OK {
		t.Fatalf("%s has no value: %d", show(p), e)
	}
	return a
}

// P23.5: a condition holds for the points exactly if its polynomial is not 0 at the variables of the earlier steps, and exactly then its step is not degenerate.
func TestMeaning(t *testing.T) {
	r := newSource()
	holding, failing := map[int]int{}, map[int]int{}
	for range 30 * rounds {
		f := randomFigure(r, 6)
		x := frameOf(t, f)
		conds := map[int]api.Condition{}
		for _, c := range ofFigure(t, f) {
			conds[c.Step] = c
		}
		next := func() api.Rat { return rational.Frac(r.Intn(7)-3, 1+r.Intn(2)) }
		walk(t, f, x, r.Intn(2) == 0, next, func(i int, points []api.Point, values []api.Rat, e api.Errno) {
			c := conds[i]
			want := rational.Sign(eval(t, polyOf(t, c, f, x), values)) != 0
			expectHolds(t, c, points, want)
			if want != (e != api.ErrDegenerate) {
				t.Fatalf("%s of %v holds: %v, but the step has the error %d", write(c), f, want, e)
			}
			if want {
				holding[f.Steps[i].Kind]++
			} else {
				failing[f.Steps[i].Kind]++
			}
		})
	}
	for kind := api.StepOnCircle; kind <= api.StepApex; kind++ {
		if holding[kind] < rounds/3 || (failing[kind] < rounds/3) != (kind == api.StepOnCircle) {
			t.Errorf("steps of the kind %d: %d conditions hold, %d do not", kind, holding[kind], failing[kind])
		}
	}
}

// P23.5: all conditions of an instance at its end, with all its points and variables.
func TestMeaningOfInstance(t *testing.T) {
	for _, c := range []struct {
		steps, values, want string
	}{
		{"free, free, free, foot 2 0 1, apex 2 3", "4 1 3", "true true"},
		{"free, free, free, foot 2 0 1, apex 2 3", "4 1 0", "true false"}, // C is its own foot
		{"free, free, free, meet 0 1 0 2, center 0 1 2, other 0 2 1", "4 1 3", "true true true"},
		{"free, free, oncircle 0 1, oncircle 1 0, mirror 2 0 1, cut 0 1 0 2, cross 0 1 1 0", "2 -1/2 3", "true true true true true"},
	} {
		f := figure(c.steps)
		x := frameOf(t, f)
		rest := strings.Fields(c.values)
		next := func() api.Rat {
			a := number(rest[0])
			rest = rest[1:]
			return a
		}
		var got []string
		walk(t, f, x, true, next, func(i int, points []api.Point, values []api.Rat, _ api.Errno) {
			for _, c := range ofFigure(t, f) {
				if c.Step != i {
					continue
				}
				holds, e := conditions.Holds(c, points)
				if e != api.OK || holds != (rational.Sign(eval(t, polyOf(t, c, f, x), values)) != 0) {
					t.Errorf("%s of %v holds: %v, %d", write(c), f, holds, e)
				}
				got = append(got, map[bool]string{false: "false", true: "true"}[holds])
			}
		})
		if s := strings.Join(got, " "); s != c.want {
			t.Errorf("the conditions of %s at %s are %s, want %s", c.steps, c.values, s, c.want)
		}
	}
}
