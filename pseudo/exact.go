package pseudo

import (
	"geoprover/api"
	"geoprover/integer"
	"geoprover/monomial"
	"geoprover/natural"
	"geoprover/poly"
	"geoprover/rational"
	"geoprover/sums"
)

// Exact returns the polynomial whose product with q is p and true, and the zero polynomial and false if there is none, or q is 0.
func Exact(p, q api.Poly) (api.Poly, bool) {
	p, q = poly.Norm(p), poly.Norm(q)
	if len(p) == 0 || len(q) == 0 {
		return nil, len(q) > 0
	}
	p, a := Primitive(p)
	q, b := Primitive(q)
	quotient, ok := primitiveQuotient(p, q)
	if !ok {
		return nil, false
	}
	factor, _ := rational.Div(b, a)
	return poly.Scale(quotient, factor), true
}

// primitiveQuotient does what Exact does for primitive polynomials, whose quotients have integer coefficients by Gauss's lemma. It finds the terms from the greatest one on.
func primitiveQuotient(p, q api.Poly) (api.Poly, bool) {
	room, fits := monomial.Quo(extent(p), extent(q))  // degrees in a variable add up in a product
	_, ends := termQuotient(p[len(p)-1], q[len(q)-1]) // and last terms are multiplied
	if !fits || !ends {
		return nil, false
	}
	var quotient api.Poly
	rest := sums.Of(p, nil, q)
	for t, ok := rest.Next(); ok; t, ok = rest.Next() {
		s, divides := termQuotient(t, q[0])
		if !divides || !monomial.Divides(s.Mono, room) {
			return nil, false
		}
		quotient = append(quotient, s)
		rest.Reduce(s)
	}
	return quotient, true
}

// termQuotient returns s / t and true, or false unless that is a term with an integer coefficient.
func termQuotient(s, t api.Term) (api.Term, bool) {
	mono, divides := monomial.Quo(s.Mono, t.Mono)
	num, rest, _ := integer.DivMod(s.Coef.Num, t.Coef.Num)
	return api.Term{Coef: api.Rat{Num: num, Den: natural.Of(1)}, Mono: mono}, divides && integer.Sign(rest) == 0
}

// extent returns the product of the highest powers of the variables in p.
func extent(p api.Poly) api.Mono {
	var powers api.Mono
	for _, t := range p {
		powers = monomial.Lcm(powers, t.Mono)
	}
	return powers
}
