package goals_test

import (
	"testing"

	"geoprover/api"
	"geoprover/plane"
	"geoprover/poly"
	"geoprover/predicate"
	"geoprover/rational"
)

// construct returns the point that package plane computes for a step whose point has dependent variables. The parameter t is that of a StepOnCircle.
func construct(s api.Step, points []api.Point, t api.Rat, branch bool) (api.Point, api.Errno) {
	var p [4]api.Point
	for k, a := range s.Args {
		p[k] = points[a]
	}
	switch s.Kind {
	case api.StepOnCircle:
		return plane.OnCircle(p[0], p[1], t), api.OK
	case api.StepFoot:
		return plane.Foot(p[0], p[1], p[2])
	case api.StepMirror:
		return plane.Mirror(p[0], p[1], p[2])
	case api.StepMeet:
		return plane.Meet(p[0], p[1], p[2], p[3])
	case api.StepOther:
		return plane.Other(p[0], p[1], p[2])
	case api.StepCenter:
		return plane.Center(p[0], p[1], p[2])
	case api.StepCut:
		return plane.Cut(p[0], p[1], p[2], p[3], branch)
	case api.StepCross:
		return plane.Intersect(p[0], p[1], p[2], p[3], branch)
	}
	return plane.Apex(p[0], p[1], branch)
}

// eval returns the value of p.
func eval(t *testing.T, p api.Poly, values []api.Rat) api.Rat {
	t.Helper()
	a, e := poly.Eval(p, values)
	if e != api.OK {
		t.Fatalf("%s has no value: %d", show(p), e)
	}
	return a
}

// solve returns the points of f, whose frame is x, and the values of all variables: next returns those of the parameters, and the dependent variables are the coordinates that package plane computes. It returns false if a point does not exist.
func solve(t *testing.T, f api.Figure, x api.Frame, branch bool, next func() api.Rat) (points []api.Point, values []api.Rat, ok bool) {
	t.Helper()
	for i, s := range f.Steps {
		var param api.Rat
		dependent := false
		for _, v := range x.Vars {
			if v.Step == i && v.Kind == api.VarParam {
				param = next()
				values = append(values, param)
			}
			dependent = dependent || v.Step == i && v.Kind == api.VarDependent
		}
		if dependent {
			p, e := construct(s, points, param, branch)
			if e != api.OK {
				return nil, nil, false
			}
			values = append(values, p.X, p.Y)
		}
		points = append(points, api.Point{X: eval(t, x.Coords[i].X, values), Y: eval(t, x.Coords[i].Y, values)})
	}
	return points, values, true
}

// P24.2
func TestValues(t *testing.T) {
	r := newSource()
	count, holding := map[int]int{}, map[int]int{}
	for range 8 * rounds {
		f := randomFigure(r, 6)
		x := frameOf(t, f)
		points, values, ok := solve(t, f, x, r.Intn(2) == 0, func() api.Rat { return rational.Frac(r.Intn(19)-9, 1+r.Intn(3)) })
		if !ok {
			continue
		}
		for kind := api.FactCollinear; kind <= api.FactRatio; kind++ {
			g := randomFact(r, kind, len(points))
			want, e := predicate.Values(g, points)
			if e != api.OK {
				t.Fatal(e)
			}
			l := polysOf(t, g, x)
			if len(l) != len(want) {
				t.Fatalf("%v has %d polynomials and %d values", g, len(l), len(want))
			}
			holds := true
			for k, p := range l {
				got := eval(t, p, values)
				if !rational.Equal(got, want[k]) {
					t.Fatalf("%s of %v has the value %s, want %s", show(p), g, rational.Text(got), rational.Text(want[k]))
				}
				holds = holds && rational.Sign(got) == 0
			}
			count[kind]++
			if holds {
				holding[kind]++
			}
		}
	}
	for kind := api.FactCollinear; kind <= api.FactRatio; kind++ {
		if holding[kind] == 0 || holding[kind] == count[kind] || count[kind] < rounds {
			t.Errorf("%d of %d facts of the kind %d hold", holding[kind], count[kind], kind)
		}
	}
}

// P24.2: facts that hold at all instances of a figure, although their polynomials are not 0.
func TestTheorems(t *testing.T) {
	r := newSource()
	for _, c := range []struct {
		steps string
		f     api.Fact
	}{
		{"free, free, free, foot 2 0 1", fact(api.FactPerpendicular, 2, 3, 0, 1)},
		{"free, free, free, center 0 1 2", fact(api.FactCongruent, 3, 1, 3, 2)},
		{"free, free, oncircle 0 1, oncircle 0 1, oncircle 0 1", fact(api.FactConcyclic, 1, 2, 3, 4)},
		{"free, free, oncircle 0 1, oncircle 0 1, oncircle 0 1", fact(api.FactAngle, 4, 1, 4, 2, 3, 1, 3, 2)},
		{"free, free, free, mirror 2 0 1, meet 2 3 0 1", fact(api.FactMidpoint, 4, 2, 3)},
		{"free, free, free, other 0 2 1, foot 1 0 2", ratio("4", 0, 3, 0, 4)},
		{"free, free, free, foot 2 0 1, mirror 2 0 1, meet 2 4 1 0", fact(api.FactSame, 3, 5)},
		{"free, free, free, foot 2 0 1, foot 0 1 2, meet 2 3 0 4", fact(api.FactPerpendicular, 1, 5, 0, 2)},
	} {
		f := figure(c.steps)
		x := frameOf(t, f)
		done := 0
		for range rounds / 4 {
			_, values, ok := solve(t, f, x, false, func() api.Rat { return rational.Frac(r.Intn(19)-9, 1+r.Intn(3)) })
			if !ok {
				continue
			}
			done++
			for _, p := range polysOf(t, c.f, x) {
				if a := eval(t, p, values); len(p) == 0 || rational.Sign(a) != 0 {
					t.Fatalf("%s of %v of %s has the value %s", show(p), c.f, c.steps, rational.Text(a))
				}
			}
		}
		if done < rounds/10 {
			t.Errorf("only %d instances of %s", done, c.steps)
		}
	}
}
