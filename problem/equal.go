package problem

import (
	"slices"

	"geoprover/api"
)

// Equal reports whether all parts of a and b are equal. It compares numbers limb by limb and polynomials term by term, since they may be invalid: a part that is not valid differs from a valid one with the same value.
func Equal(a, b api.Problem) bool {
	return equalFigures(a.Figure, b.Figure) && equalFrames(a.Frame, b.Frame) &&
		equalPolys(a.Hyps, b.Hyps) && equalPolys(a.Conds, b.Conds) && slices.EqualFunc(a.Goals, b.Goals, equalPolys)
}

// equalFigures reports whether the steps and the goals of f and g are equal.
func equalFigures(f, g api.Figure) bool {
	return slices.EqualFunc(f.Steps, g.Steps, equalSteps) && slices.EqualFunc(f.Goals, g.Goals, equalFacts)
}

// equalSteps reports whether s and t are equal.
func equalSteps(s, t api.Step) bool {
	return s.Kind == t.Kind && s.Point == t.Point && slices.Equal(s.Args, t.Args) && equalRats(s.Ratio, t.Ratio)
}

// equalFacts reports whether f and g are equal.
func equalFacts(f, g api.Fact) bool {
	return f.Kind == g.Kind && slices.Equal(f.Args, g.Args) && equalRats(f.Ratio, g.Ratio)
}

// equalFrames reports whether the coordinates and the variables of x and y are equal.
func equalFrames(x, y api.Frame) bool {
	return slices.EqualFunc(x.Coords, y.Coords, equalCoords) && slices.Equal(x.Vars, y.Vars)
}

// equalCoords reports whether c and d are equal.
func equalCoords(c, d api.Coord) bool { return equalPoly(c.X, d.X) && equalPoly(c.Y, d.Y) }

// equalPolys reports whether the polynomials of two lists are equal.
func equalPolys(l, m []api.Poly) bool { return slices.EqualFunc(l, m, equalPoly) }

// equalPoly reports whether p and q have equal terms in the same order.
func equalPoly(p, q api.Poly) bool { return slices.EqualFunc(p, q, equalTerms) }

// equalTerms reports whether s and t are equal.
func equalTerms(s, t api.Term) bool {
	return equalRats(s.Coef, t.Coef) && slices.Equal(s.Mono, t.Mono)
}

// equalRats reports whether a and b are written in the same way.
func equalRats(a, b api.Rat) bool {
	return a.Num.Neg == b.Num.Neg && slices.Equal(a.Num.Abs, b.Num.Abs) && slices.Equal(a.Den, b.Den)
}
