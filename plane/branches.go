package plane

import (
	"geoprover/api"
	"geoprover/rational"
)

// Cut returns a point of the line AB and of the circle about O through P: the one that is farther in the direction of AB, or the other one.
func Cut(a, b, o, p api.Point, far bool) (api.Point, api.Errno) {
	if Equal(a, b) {
		return api.Point{}, api.ErrDegenerate
	}
	v := from(a, b)
	m := v.along(from(a, o))
	// The square of half the chord, in units of |AB|.
	d := rational.Sub(rational.Mul(m, m), quotient(rational.Sub(Norm(a, o), Norm(o, p)), v.norm()))
	h, e := root(d, far)
	if e != api.OK {
		return api.Point{}, e
	}
	return plus(a, v.times(rational.Add(m, h))), api.OK
}

// Intersect returns a point of the circles about O through P and about Q through R: the one on the left of the ray from O to Q, or the other one.
func Intersect(o, p, q, r api.Point, left bool) (api.Point, api.Errno) {
	if Equal(o, q) {
		return api.Point{}, api.ErrDegenerate
	}
	v := from(o, q)
	unit, radius := v.norm(), Norm(o, p)
	m := quotient(rational.Sub(rational.Add(unit, radius), Norm(q, r)), twice(unit))
	// The square of half the common chord, in units of |OQ|.
	d := rational.Sub(quotient(radius, unit), rational.Mul(m, m))
	h, e := root(d, left)
	if e != api.OK {
		return api.Point{}, e
	}
	return plus(plus(o, v.times(m)), v.turned().times(h)), api.OK
}

// root returns the square root of d, or its negative.
func root(d api.Rat, positive bool) (api.Rat, api.Errno) {
	if rational.Sign(d) < 0 {
		return api.Rat{}, api.ErrNone
	}
	h, ok := rational.Sqrt(d)
	if !ok {
		return api.Rat{}, api.ErrIrrational
	}
	if !positive {
		h = rational.Neg(h)
	}
	return h, api.OK
}

// Apex returns no point: both points that form an equilateral triangle with A and B have a coordinate that is not rational.
func Apex(a, b api.Point, left bool) (api.Point, api.Errno) {
	if Equal(a, b) {
		return api.Point{}, api.ErrDegenerate
	}
	return api.Point{}, api.ErrIrrational
}
