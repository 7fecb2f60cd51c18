package plane

import (
	"geoprover/api"
	"geoprover/rational"
)

// vector is the two coordinates of a vector.
type vector [2]api.Rat

// from returns the vector AB.
func from(a, b api.Point) vector {
	return vector{rational.Sub(b.X, a.X), rational.Sub(b.Y, a.Y)}
}

// plus returns the point A + v.
func plus(a api.Point, v vector) api.Point {
	return api.Point{X: rational.Add(a.X, v[0]), Y: rational.Add(a.Y, v[1])}
}

// dot returns the scalar product of v and w.
func (v vector) dot(w vector) api.Rat {
	return rational.Add(rational.Mul(v[0], w[0]), rational.Mul(v[1], w[1]))
}

// cross returns the determinant of v and w.
func (v vector) cross(w vector) api.Rat {
	return rational.Sub(rational.Mul(v[0], w[1]), rational.Mul(v[1], w[0]))
}

// norm returns the square of the length of v.
func (v vector) norm() api.Rat {
	return v.dot(v)
}

// minus returns v - w.
func (v vector) minus(w vector) vector {
	return vector{rational.Sub(v[0], w[0]), rational.Sub(v[1], w[1])}
}

// times returns s v.
func (v vector) times(s api.Rat) vector {
	for i, x := range v {
		v[i] = rational.Mul(s, x)
	}
	return v
}

// turned returns v, rotated by a right angle, counterclockwise.
func (v vector) turned() vector {
	return vector{rational.Neg(v[1]), v[0]}
}

// along returns the number s for which s v is the projection of w to v, which is not 0.
func (v vector) along(w vector) api.Rat {
	return quotient(v.dot(w), v.norm())
}

// quotient returns a / b for a b other than 0.
func quotient(a, b api.Rat) api.Rat {
	q, _ := rational.Div(a, b)
	return q
}

// twice returns 2 a.
func twice(a api.Rat) api.Rat {
	return rational.Add(a, a)
}
