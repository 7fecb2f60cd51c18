package goals

import (
	"math"

	"geoprover/api"
	"geoprover/poly"
	"geoprover/rational"
	"geoprover/sums"
)

// vector is the two coordinates of a vector.
type vector [2]api.Poly

// from returns the vector AB.
func from(a, b api.Coord) vector {
	return vector{b.X, b.Y}.minus(vector{a.X, a.Y})
}

// plus returns v + w.
func (v vector) plus(w vector) vector {
	return vector{poly.Add(v[0], w[0]), poly.Add(v[1], w[1])}
}

// minus returns v - w.
func (v vector) minus(w vector) vector {
	return vector{poly.Sub(v[0], w[0]), poly.Sub(v[1], w[1])}
}

// times returns a v.
func (v vector) times(a api.Rat) vector {
	return vector{poly.Scale(v[0], a), poly.Scale(v[1], a)}
}

// turned returns v, rotated by a right angle, counterclockwise.
func (v vector) turned() vector {
	return vector{poly.Neg(v[1]), v[0]}
}

// length returns the number of terms of v.
func (v vector) length() int { return len(v[0]) + len(v[1]) }

// each returns the coordinates of v.
func (v vector) each() []*sums.Sum {
	return []*sums.Sum{sums.Of(v[0], nil, nil), sums.Of(v[1], nil, nil)}
}

// cross returns the determinant of v and w. It is also that of v and w - v or w + v, which are short if v and w are alike, such as two vectors between long points and short ones.
func cross(v, w vector) *sums.Sum {
	for _, u := range []vector{w.minus(v), w.plus(v)} {
		if u.length() < w.length() {
			w = u
		}
	}
	return add(add(empty(), v[0], w[1]), constant(-1), v[1], w[0])
}

// dot returns the scalar product of v and w.
func dot(v, w vector) *sums.Sum { return cross(v, w.turned()) }

// excess returns |v|^2 - r |w|^2. If r is the square of q, it is the scalar product of v - q w and v + q w, which has far fewer terms that cancel than the two squares if v and q w are alike.
func excess(v, w vector, r api.Rat) *sums.Sum {
	if q, ok := rational.Sqrt(r); ok {
		w = w.times(q)
		return dot(v.minus(w), v.plus(w))
	}
	s := empty()
	for k := range v {
		add(s, v[k], v[k])
		add(s, poly.Const(rational.Neg(r)), w[k], w[k])
	}
	return s
}

// turn returns a vector whose direction is that of w, turned back by the angle from the first axis to v: the full angle from v to w is the one from that axis to it.
func turn(v, w vector) vector {
	return vector{exact(dot(v, w)), exact(cross(v, w))}
}

// empty returns the sum of no products.
func empty() *sums.Sum { return sums.Of(nil, nil, nil) }

// constant returns the polynomial n.
func constant(n int) api.Poly { return poly.Const(rational.Of(n)) }

// add adds the product of the factors to s, and returns s. It leaves the last multiplication to s, of which only as many terms are computed as a limit allows.
func add(s *sums.Sum, factors ...api.Poly) *sums.Sum {
	last := len(factors) - 1
	product := constant(1)
	for _, p := range factors[:last] {
		product = poly.Mul(product, p)
	}
	s.Add(product, factors[last])
	return s
}

// exact returns the value of s, however large it is.
func exact(s *sums.Sum) api.Poly {
	p, _ := s.Within(math.MaxInt)
	return p
}
