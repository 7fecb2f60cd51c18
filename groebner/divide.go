package groebner

import (
	"geoprover/api"
	"geoprover/monomial"
	"geoprover/rational"
)

// divisor is a polynomial other than 0 by which polynomials are divided.
type divisor struct {
	terms  terms
	extent api.Mono // the product of the highest powers of the variables
}

// divisorOf returns the divisor with these terms.
func divisorOf(l terms) divisor {
	var extent api.Mono
	for _, t := range l {
		extent = monomial.Lcm(extent, t.Mono)
	}
	return divisor{terms: l, extent: extent}
}

// lead returns the leading monomial.
func (d divisor) lead() api.Mono { return d.terms[0].Mono }

// divide divides the polynomial with the terms l, which is not large. It returns the quotients, the rest and true, or false as soon as a polynomial is large.
func divide(l terms, divisors []divisor, order int) (quotients []terms, rest terms, ok bool) {
	quotients = make([]terms, len(divisors))
division:
	for len(l) > 0 {
		for i, d := range divisors {
			if !monomial.Divides(d.lead(), l[0].Mono) {
				continue
			}
			f := quotient(l[0], d.terms[0])
			quotients[i] = append(quotients[i], f)
			l = l.minus(f, d.terms, order)
			// What is too high in f d was not in l, and so it is left.
			if len(quotients[i]) > api.MaxTerms || len(l) > api.MaxTerms || isHigh(monomial.Mul(f.Mono, d.extent)) {
				return nil, nil, false
			}
			continue division
		}
		rest = append(rest, l[0])
		if len(rest) > api.MaxTerms {
			return nil, nil, false
		}
		l = l[1:]
	}
	return quotients, rest, true
}

// pair is the terms by which two polynomials are multiplied, so that their leading terms are the same, and the difference of the products.
type pair struct {
	first, second *api.Term
	difference    terms
}

// pairOf returns the pair of p and q and true, or false if the difference is large.
func pairOf(p, q terms, order int) (pair, bool) {
	lcm := &api.Term{Coef: rational.Of(1), Mono: monomial.Lcm(p[0].Mono, q[0].Mono)}
	x := pair{first: quotient(lcm, p[0]), second: quotient(lcm, q[0])}
	x.difference = p.times(x.first).minus(x.second, q, order)
	return x, !x.difference.isLarge()
}
