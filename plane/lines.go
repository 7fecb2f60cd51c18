package plane

import (
	"geoprover/api"
	"geoprover/rational"
)

// Foot returns the foot of the perpendicular from P to the line AB.
func Foot(p, a, b api.Point) (api.Point, api.Errno) {
	if Equal(a, b) {
		return api.Point{}, api.ErrDegenerate
	}
	v := from(a, b)
	return plus(a, v.times(v.along(from(a, p)))), api.OK
}

// Mirror returns the reflection of P in the line AB.
func Mirror(p, a, b api.Point) (api.Point, api.Errno) {
	f, e := Foot(p, a, b)
	if e != api.OK {
		return api.Point{}, e
	}
	return Shift(f, p, f), api.OK
}

// Meet returns the intersection of the lines AB and CD.
func Meet(a, b, c, d api.Point) (api.Point, api.Errno) {
	v, w := from(a, b), from(c, d)
	det := v.cross(w)
	if rational.Sign(det) == 0 {
		return api.Point{}, api.ErrDegenerate
	}
	return plus(a, v.times(quotient(from(a, c).cross(w), det))), api.OK
}
