package coordinates

import (
	"geoprover/api"
	"geoprover/poly"
)

// vector is the two coordinates of a vector, or of a point.
type vector [2]api.Poly

// plus returns v + w.
func (v vector) plus(w vector) vector {
	return vector{poly.Add(v[0], w[0]), poly.Add(v[1], w[1])}
}

// minus returns v - w.
func (v vector) minus(w vector) vector {
	return vector{poly.Sub(v[0], w[0]), poly.Sub(v[1], w[1])}
}

// times returns p v.
func (v vector) times(p api.Poly) vector {
	return vector{poly.Mul(p, v[0]), poly.Mul(p, v[1])}
}

// turned returns v, rotated by a right angle, counterclockwise.
func (v vector) turned() vector {
	return vector{poly.Neg(v[1]), v[0]}
}

// large reports whether a coordinate has too many terms.
func (v vector) large() bool {
	return max(len(v[0]), len(v[1])) > api.MaxTerms
}
