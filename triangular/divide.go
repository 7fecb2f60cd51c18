package triangular

import (
	"geoprover/api"
	"geoprover/poly"
	"geoprover/pseudo"
	"geoprover/rational"
	"geoprover/sums"
)

// Reduce divides p by the elements of the chain, from the last one to the first one. It returns the first of these errors: ErrArg if p is not valid; ErrOrder if chain is not a chain; the error of a division, or ErrLarge if a quotient is large, multiplied by the initials of earlier elements.
func Reduce(p api.Poly, chain []api.Poly) (api.Reduction, api.Errno) {
	switch {
	case !poly.Right(p):
		return api.Reduction{}, api.ErrArg
	case !Right(chain):
		return api.Reduction{}, api.ErrOrder
	}
	r := api.Reduction{Powers: make([]int, len(chain)), Quotients: make([]api.Poly, len(chain)), Rest: poly.Norm(p)}
	for i := len(chain) - 1; i >= 0; i-- {
		var e api.Errno
		r.Quotients[i], r.Rest, r.Powers[i], e = pseudo.Divide(r.Rest, chain[i], pseudo.Main(chain[i]))
		if e != api.OK || !raise(r.Quotients[i+1:], chain[i], r.Powers[i]) {
			return api.Reduction{}, api.ErrLarge
		}
	}
	return r, api.OK
}

// raise multiplies the quotients by the initial of t to the power n. It returns false if one of them becomes large.
func raise(quotients []api.Poly, t api.Poly, n int) bool {
	if n == 0 {
		return true
	}
	initial := pseudo.Initial(t)
	factor := power(initial, n-1)
	for i, q := range quotients {
		product, ok := sums.Of(nil, initial, poly.Mul(factor, q)).Small()
		if !ok {
			return false
		}
		quotients[i] = product
	}
	return true
}

// divided returns the element that replaces f in a round for v, in which g divides. It is not yet primitive.
func divided(f, g api.Element, v int) (api.Element, api.Errno) {
	q, rest, n, e := pseudo.Divide(f.Poly, g.Poly, v)
	if e != api.OK {
		return api.Element{}, e
	}
	x := api.Element{Poly: rest, Cofactors: make([]api.Poly, len(f.Cofactors))}
	initial := pseudo.Initial(g.Poly)
	factor := power(initial, n-1) // f has at least the degree of g, so that n is not 0
	q = poly.Neg(q)
	for i := range x.Cofactors {
		sum := sums.Of(nil, initial, poly.Mul(factor, f.Cofactors[i]))
		sum.Add(q, g.Cofactors[i])
		cofactor, ok := sum.Small()
		if !ok {
			return api.Element{}, api.ErrLarge
		}
		x.Cofactors[i] = cofactor
	}
	return x, api.OK
}

// power returns p^n.
func power(p api.Poly, n int) api.Poly {
	product := poly.Const(rational.Of(1))
	for range n {
		product = poly.Mul(product, p)
	}
	return product
}
