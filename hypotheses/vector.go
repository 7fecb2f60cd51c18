package hypotheses

import (
	"math"

	"geoprover/api"
	"geoprover/poly"
	"geoprover/sums"
)

// vector is the two coordinates of a vector, or of a point.
type vector [2]api.Poly

// from returns the vector AB.
func from(a, b api.Coord) vector {
	return vector{b.X, b.Y}.minus(vector{a.X, a.Y})
}

// plus returns v + w.
func (v vector) plus(w vector) vector {
	return vector{poly.Add(v[0], w[0]), poly.Add(v[1], w[1])}
}

// minus returns v - w.
func (v vector) minus(w vector) vector {
	return vector{poly.Sub(v[0], w[0]), poly.Sub(v[1], w[1])}
}

// product is a product of two polynomials.
type product [2]api.Poly

// sum is a sum of products that are not multiplied out, so that a sum that is too large need not be computed.
type sum []product

// dot returns the scalar product of v and w.
func dot(v, w vector) sum {
	return sum{{v[0], w[0]}, {v[1], w[1]}}
}

// cross returns the determinant of v and w.
func cross(v, w vector) sum {
	return sum{{v[0], w[1]}, {poly.Neg(v[1]), w[0]}}
}

// excess returns |v|^2 - |w|^2. The product of the difference and the sum of v and w has far fewer terms that cancel than the two squares if v and w are long and alike.
func excess(v, w vector) sum {
	return dot(v.minus(w), v.plus(w))
}

// within returns the value of s and true, or nothing and false if it has more than limit terms.
func (s sum) within(limit int) (api.Poly, bool) {
	terms := sums.Of(nil, nil, nil)
	for _, p := range s {
		terms.Add(p[0], p[1])
	}
	return terms.Within(limit)
}

// exact returns the value of s, however large it is.
func exact(s sum) api.Poly {
	p, _ := s.within(math.MaxInt)
	return p
}
