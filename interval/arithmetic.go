package interval

import (
	"geoprover/api"
	"geoprover/rational"
)

// Add returns the interval of all x + y with x in a and y in b.
func Add(a, b api.Interval) api.Interval {
	return api.Interval{Lo: rational.Add(a.Lo, b.Lo), Hi: rational.Add(a.Hi, b.Hi)}
}

// Sub returns the interval of all x - y with x in a and y in b.
func Sub(a, b api.Interval) api.Interval {
	return api.Interval{Lo: rational.Sub(a.Lo, b.Hi), Hi: rational.Sub(a.Hi, b.Lo)}
}

// Mul returns the interval of all x y with x in a and y in b.
func Mul(a, b api.Interval) api.Interval {
	// A product is least and greatest at end points, since it is linear in each factor.
	return hull(rational.Mul(a.Lo, b.Lo), rational.Mul(a.Lo, b.Hi), rational.Mul(a.Hi, b.Lo), rational.Mul(a.Hi, b.Hi))
}

// Div returns the interval of all x / y with x in a and y in b, or ErrZero if 0 is in b.
func Div(a, b api.Interval) (api.Interval, api.Errno) {
	if s := signsOf(b); s != both(1) && s != both(-1) {
		return api.Interval{}, api.ErrZero
	}
	return Mul(a, api.Interval{Lo: reciprocal(b.Hi), Hi: reciprocal(b.Lo)}), api.OK
}

// reciprocal returns 1 / a for an a other than 0.
func reciprocal(a api.Rat) api.Rat {
	r, _ := rational.Div(rational.Of(1), a)
	return r
}

// Square returns the interval of all x^2 with x in a.
func Square(a api.Interval) api.Interval {
	lo, hi := rational.Mul(a.Lo, a.Lo), rational.Mul(a.Hi, a.Hi)
	if signsOf(a) == (signs{lo: -1, hi: 1}) {
		return hull(rational.Of(0), lo, hi)
	}
	return hull(lo, hi)
}
