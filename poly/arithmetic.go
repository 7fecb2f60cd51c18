package poly

import (
	"geoprover/api"
	"geoprover/monomial"
	"geoprover/rational"
)

// Neg returns -p.
func Neg(p api.Poly) api.Poly {
	return clone(opposite(p))
}

// Add returns the sum of p and q.
func Add(p, q api.Poly) api.Poly {
	return clone(sum(p, q))
}

// Sub returns p - q.
func Sub(p, q api.Poly) api.Poly {
	return clone(sum(p, opposite(q)))
}

// Mul returns the product of p and q.
func Mul(p, q api.Poly) api.Poly {
	return clone(product(p, q))
}

// Scale returns the product of p and the number a.
func Scale(p api.Poly, a api.Rat) api.Poly {
	return clone(product(Const(a), p))
}

// Pow returns p^n. It returns ErrRange unless n is from 0 to MaxTerms, and then ErrLarge if one of p, p^2, .., p^n is large.
func Pow(p api.Poly, n int) (api.Poly, api.Errno) {
	if n < 0 || n > api.MaxTerms {
		return nil, api.ErrRange
	}
	power := Const(rational.Of(1))
	for range n {
		power = product(power, p)
		if large(power) {
			return nil, api.ErrLarge
		}
	}
	return clone(power), api.OK
}

// opposite returns -p, in the memory of p.
func opposite(p api.Poly) api.Poly {
	o := make(api.Poly, len(p))
	for i, t := range p {
		t.Coef.Num.Neg = !t.Coef.Num.Neg
		o[i] = t
	}
	return o
}

// product returns the product of p and q, in part in the memory of their terms.
func product(p, q api.Poly) api.Poly {
	if len(p) > len(q) { // few long rows are summed faster than many short ones
		p, q = q, p
	}
	return total(len(p), func(i int) api.Poly { return row(p[i], q) })
}

// row returns the products of t and the terms of p, which descend as these do, in part in the memory of these.
func row(t api.Term, p api.Poly) api.Poly {
	r := make(api.Poly, len(p))
	scaled := scaling(t.Coef)
	for i, u := range p {
		r[i] = api.Term{Coef: scaled(u.Coef), Mono: monomial.Mul(t.Mono, u.Mono)}
	}
	return r
}

// scaling returns a function that multiplies numbers by a. Most coefficients are 1 or -1, for which this takes no new memory.
func scaling(a api.Rat) func(x api.Rat) api.Rat {
	if !rational.Equal(rational.Mul(a, a), rational.Of(1)) {
		return func(x api.Rat) api.Rat { return rational.Mul(a, x) }
	}
	return func(x api.Rat) api.Rat {
		x.Num.Neg = x.Num.Neg != a.Num.Neg
		return x
	}
}

// clone returns p in new memory.
func clone(p api.Poly) api.Poly {
	c := make(api.Poly, len(p))
	for i, t := range p {
		c[i] = freshTerm(t)
	}
	return c
}
