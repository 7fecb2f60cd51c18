package predicate

import (
	"geoprover/api"
	"geoprover/plane"
	"geoprover/rational"
)

// Values returns the values of the polynomials of f.
func Values(f api.Fact, points []api.Point) ([]api.Rat, api.Errno) {
	if e := Right(f, len(points)); e != api.OK {
		return nil, e
	}
	p := corners(f, points)
	switch f.Kind {
	case api.FactCollinear:
		return values(plane.Cross(p[0], p[1], p[0], p[2])), api.OK
	case api.FactParallel:
		return values(plane.Cross(p[0], p[1], p[2], p[3])), api.OK
	case api.FactPerpendicular:
		return values(plane.Dot(p[0], p[1], p[2], p[3])), api.OK
	case api.FactCongruent:
		return values(excess(p, rational.Of(1))), api.OK
	case api.FactMidpoint:
		return midpoint(p[0], p[1], p[2]), api.OK
	case api.FactConcyclic:
		return values(turn(p[1], p[0], p[1], p[2], p[3], p[0], p[3], p[2])), api.OK
	case api.FactAngle:
		return values(turn(p...)), api.OK
	case api.FactSame:
		return values(rational.Sub(p[0].X, p[1].X), rational.Sub(p[0].Y, p[1].Y)), api.OK
	}
	return values(excess(p, f.Ratio)), api.OK
}

// Holds reports whether all values of f are 0.
func Holds(f api.Fact, points []api.Point) (bool, api.Errno) {
	l, e := Values(f, points)
	if e != api.OK {
		return false, e
	}
	for _, x := range l {
		if rational.Sign(x) != 0 {
			return false, api.OK
		}
	}
	return true, api.OK
}

// corners returns the points for which the arguments of f stand.
func corners(f api.Fact, points []api.Point) []api.Point {
	l := make([]api.Point, len(f.Args))
	for i, a := range f.Args {
		l[i] = points[a]
	}
	return l
}

// values collects the values of a fact.
func values(l ...api.Rat) []api.Rat {
	return l
}

// excess returns |AB|^2 - r |CD|^2 for the points A, B, C, D.
func excess(p []api.Point, r api.Rat) api.Rat {
	return rational.Sub(plane.Norm(p[0], p[1]), rational.Mul(r, plane.Norm(p[2], p[3])))
}

// midpoint returns the values for M, A and B.
func midpoint(m, a, b api.Point) []api.Rat {
	// A - M is M - B if M is the midpoint.
	return values(
		rational.Sub(rational.Sub(a.X, m.X), rational.Sub(m.X, b.X)),
		rational.Sub(rational.Sub(a.Y, m.Y), rational.Sub(m.Y, b.Y)),
	)
}

// turn returns cross(AB, CD) dot(EF, GH) - cross(EF, GH) dot(AB, CD) for eight points: it is 0 if the full angles from AB to CD and from EF to GH are the same.
func turn(p ...api.Point) api.Rat {
	return rational.Sub(
		rational.Mul(plane.Cross(p[0], p[1], p[2], p[3]), plane.Dot(p[4], p[5], p[6], p[7])),
		rational.Mul(plane.Cross(p[4], p[5], p[6], p[7]), plane.Dot(p[0], p[1], p[2], p[3])),
	)
}
