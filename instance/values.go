package instance

import (
	"slices"

	"geoprover/api"
	"geoprover/coordinates"
	"geoprover/fresh"
	"geoprover/plane"
	"geoprover/poly"
	"geoprover/rational"
)

// Values returns the values of the variables of p at x, or ErrMismatch unless x has as many values as p has parameters, and as many points as p has steps.
func Values(p api.Problem, x api.Instance) ([]api.Rat, api.Errno) {
	if len(x.Values) != len(coordinates.Params(p.Frame)) || len(x.Points) != len(p.Figure.Steps) {
		return nil, api.ErrMismatch
	}
	var values []api.Rat
	params := x.Values
	for i, v := range p.Frame.Vars {
		switch {
		case v.Kind == api.VarParam:
			values = append(values, fresh.Rat(params[0]))
			params = params[1:]
		case v.Step < 0 || v.Step >= len(x.Points): // in no problem that is right
			return nil, api.ErrMismatch
		case isSecond(p.Frame, i):
			values = append(values, fresh.Rat(x.Points[v.Step].Y))
		default:
			values = append(values, fresh.Rat(x.Points[v.Step].X))
		}
	}
	return values, api.OK
}

// isSecond reports whether the dependent variable i is the second one of its step.
func isSecond(x api.Frame, i int) bool {
	return i > 0 && x.Vars[i-1].Kind == api.VarDependent && x.Vars[i-1].Step == x.Vars[i].Step
}

// Satisfies reports whether x satisfies p, or returns the error of Values.
func Satisfies(p api.Problem, x api.Instance) (bool, api.Errno) {
	values, e := Values(p, x)
	if e != api.OK {
		return false, e
	}
	vanishes := func(q api.Poly) bool { return isZero(q, values) }
	remains := func(q api.Poly) bool { return !isZero(q, values) }
	return !slices.ContainsFunc(p.Hyps, remains) && !slices.ContainsFunc(p.Conds, vanishes) && isPlaced(p.Frame.Coords, x.Points, values), api.OK
}

// isPlaced reports whether the points have the values of their coordinates. Those whose coordinates are dependent variables always do, since the values of these come from the points.
func isPlaced(coords []api.Coord, points []api.Point, values []api.Rat) bool {
	return slices.EqualFunc(coords, points, func(c api.Coord, p api.Point) bool {
		x, e := poly.Eval(c.X, values)
		if e != api.OK {
			return false
		}
		y, e := poly.Eval(c.Y, values)
		return e == api.OK && plane.Equal(api.Point{X: x, Y: y}, p)
	})
}

// Violates reports whether a polynomial of a goal of p is not 0 at x. Otherwise it returns ErrRange if there is no such goal, or the error of Values.
func Violates(p api.Problem, goal int, x api.Instance) (bool, api.Errno) {
	if goal < 0 || goal >= len(p.Goals) {
		return false, api.ErrRange
	}
	values, e := Values(p, x)
	if e != api.OK {
		return false, e
	}
	return slices.ContainsFunc(p.Goals[goal], func(q api.Poly) bool { return !isZero(q, values) }), api.OK
}

// isZero reports whether p is 0 at the values.
func isZero(p api.Poly, values []api.Rat) bool {
	a, e := poly.Eval(p, values)
	return e == api.OK && rational.Sign(a) == 0
}
