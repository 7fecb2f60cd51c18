package coordinates_test

import (
	"math/rand"
	"slices"
	"testing"

	"geoprover/api"
	"geoprover/coordinates"
	"geoprover/plane"
	"geoprover/poly"
	"geoprover/rational"
)

// P21.4
func TestNumbersOfVariables(t *testing.T) {
	r := newSource()
	for range rounds {
		f := randomFigure(r, 14)
		x, e := coordinates.Of(f)
		if e != api.OK { // the coordinates are too long
			continue
		}
		params, dependents, free := 0, 0, 0
		for _, s := range f.Steps {
			switch s.Kind {
			case api.StepFree:
				free++
			case api.StepOnLine:
				params++
			case api.StepOnCircle:
				params++
				dependents += 2
			case api.StepDivide, api.StepShift, api.StepTurn:
			default:
				dependents += 2
			}
		}
		if free >= 2 {
			params += 2*free - 3
		}
		if got := len(coordinates.Params(x)); got != params || len(x.Vars) != params+dependents {
			t.Fatalf("%v has %d parameters and %d variables, want %d and %d", f, got, len(x.Vars), params, params+dependents)
		}
	}
}

// values returns random values of n variables.
func values(r *rand.Rand, n int) []api.Rat {
	l := make([]api.Rat, n)
	for v := range l {
		l[v] = rational.Frac(r.Intn(199)-99, 1+r.Intn(9))
	}
	return l
}

// at returns the points of a frame at values of its variables.
func at(t *testing.T, x api.Frame, values []api.Rat) []api.Point {
	t.Helper()
	l := make([]api.Point, len(x.Coords))
	for i, c := range x.Coords {
		var e, e2 api.Errno
		l[i].X, e = poly.Eval(c.X, values)
		l[i].Y, e2 = poly.Eval(c.Y, values)
		if e != api.OK || e2 != api.OK {
			t.Fatalf("Eval of %s has the errors %d, %d", showPoints(x.Coords[i:i+1]), e, e2)
		}
	}
	return l
}

// P21.5
func TestValues(t *testing.T) {
	r, met := newSource(), map[int]int{}
	for range rounds {
		f := randomFigure(r, 12)
		x, e := coordinates.Of(f)
		if e != api.OK {
			continue
		}
		values := values(r, len(x.Vars))
		points := at(t, x, values)
		for i, s := range f.Steps {
			var want api.Point
			arg := func(k int) api.Point { return points[s.Args[k]] }
			switch s.Kind {
			case api.StepDivide:
				want = plane.Divide(arg(0), arg(1), s.Ratio)
			case api.StepShift:
				want = plane.Shift(arg(0), arg(1), arg(2))
			case api.StepTurn:
				want = plane.Turn(arg(0), arg(1), arg(2))
			case api.StepOnLine:
				v := slices.Index(x.Vars, api.Var{Kind: api.VarParam, Step: i})
				want = plane.Divide(arg(0), arg(1), values[v])
			default:
				continue
			}
			met[s.Kind]++
			if !plane.Equal(points[i], want) {
				t.Fatalf("the point %d of %v is not the one that package plane computes", i, f)
			}
		}
	}
	for _, kind := range []int{api.StepDivide, api.StepShift, api.StepTurn, api.StepOnLine} {
		if met[kind] < 20 {
			t.Errorf("only %d steps of the kind %d", met[kind], kind)
		}
	}
}

// P21.6
func TestBeginnings(t *testing.T) {
	r := newSource()
	for range rounds {
		f := randomFigure(r, 10)
		x, e := coordinates.Of(f)
		if e != api.OK {
			continue
		}
		for n := range f.Steps {
			y := frameOf(t, api.Figure{Steps: f.Steps[:n]})
			count := 0
			for count < len(x.Vars) && x.Vars[count].Step < n {
				count++
			}
			if !slices.Equal(y.Vars, x.Vars[:count]) || len(y.Coords) != n || showPoints(y.Coords) != showPoints(x.Coords[:n]) {
				t.Fatalf("the first %d steps of %v have the frame %s", n, f, show(y))
			}
			if coordinates.Right(f, y) {
				t.Fatalf("the frame of the first %d steps of %v is right for all of them", n, f)
			}
		}
	}
}
