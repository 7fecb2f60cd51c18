package pseudo

import (
	"geoprover/api"
	"geoprover/monomial"
	"geoprover/poly"
	"geoprover/rational"
	"geoprover/sums"
)

// Divide divides f by g as polynomials in v. Each step multiplies by the coefficient c of the highest power of v in g, so that c^power f = q g + r. It returns the first of these errors: ErrRange unless v is from 0 to MaxVars - 1; ErrZero if g is 0; ErrLarge as soon as q or r, which is f at first, is large.
func Divide(f, g api.Poly, v int) (q, r api.Poly, power int, e api.Errno) {
	switch {
	case v < 0 || v >= api.MaxVars:
		return nil, nil, 0, api.ErrRange
	case len(g) == 0:
		return nil, nil, 0, api.ErrZero
	case sums.Large(f):
		return nil, nil, 0, api.ErrLarge
	}
	r, g = poly.Norm(f), poly.Norm(g)
	degree := DegreeIn(g, v)
	times := multiplier(part(g, v, degree, degree))
	tail := below(g, v, degree)
	for n := DegreeIn(r, v); len(r) > 0 && n >= degree; n = DegreeIn(r, v) {
		b := part(r, v, n, degree)
		q = poly.Add(times(q), b)
		r = poly.Sub(times(below(r, v, n)), poly.Mul(b, tail)) // the terms with v^n cancel
		power++
		if sums.Large(q) || sums.Large(r) {
			return nil, nil, 0, api.ErrLarge
		}
	}
	return q, r, power, api.OK
}

// below returns the terms of p in which the exponent of v is less than n, in the memory of p.
func below(p api.Poly, v, n int) api.Poly {
	var terms api.Poly
	for _, t := range p {
		if monomial.Exp(t.Mono, v) < n {
			terms = append(terms, t)
		}
	}
	return terms
}

// multiplier returns a function that multiplies polynomials by c, which is often 1: then it returns the polynomials themselves.
func multiplier(c api.Poly) func(p api.Poly) api.Poly {
	if poly.Equal(c, poly.Const(rational.Of(1))) {
		return func(p api.Poly) api.Poly { return p }
	}
	return func(p api.Poly) api.Poly { return poly.Mul(c, p) }
}
