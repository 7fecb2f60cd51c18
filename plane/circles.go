package plane

import (
	"geoprover/api"
	"geoprover/rational"
)

// OnCircle returns the second point of the circle about O through A on the line through A with the slope t.
func OnCircle(o, a api.Point, t api.Rat) api.Point {
	return second(o, a, vector{rational.Of(1), t})
}

// Other returns the second point of the circle about O through P on the line PQ.
func Other(p, q, o api.Point) (api.Point, api.Errno) {
	if Equal(p, q) {
		return api.Point{}, api.ErrDegenerate
	}
	return second(o, p, from(p, q)), api.OK
}

// second returns the second point of the circle about O through A on the line through A with the direction v, which is not 0.
func second(o, a api.Point, v vector) api.Point {
	// The projection of the center halves the chord.
	return plus(a, v.times(twice(v.along(from(a, o)))))
}

// Center returns the center of the circle through A, B and C.
func Center(a, b, c api.Point) (api.Point, api.Errno) {
	u, v := from(a, b), from(a, c)
	d := twice(u.cross(v))
	if rational.Sign(d) == 0 {
		return api.Point{}, api.ErrDegenerate
	}
	w := u.times(v.norm()).minus(v.times(u.norm()))
	return plus(a, w.turned().times(quotient(rational.Of(1), d))), api.OK
}
