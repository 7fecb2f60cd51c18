package groebner

import (
	"slices"
	"sort"

	"geoprover/api"
	"geoprover/monomial"
	"geoprover/poly"
	"geoprover/rational"
)

// terms is the terms of a polynomial, descending in the order of a computation. Nothing writes into a term, and so polynomials share them.
type terms []*api.Term

// termsOf returns the terms of p.
func termsOf(p api.Poly, order int) terms {
	p = poly.Norm(p)
	l := make(terms, len(p))
	for i := range p {
		l[i] = &p[i]
	}
	slices.SortFunc(l, func(s, t *api.Term) int { return monomial.Cmp(t.Mono, s.Mono, order) })
	return l
}

// poly returns the polynomial with the terms of l, in new memory.
func (l terms) poly() api.Poly {
	p := make([]api.Term, len(l))
	for i, t := range l {
		p[i] = *t
	}
	return poly.Norm(p)
}

// polys returns the polynomials with the terms of the lists.
func polys(lists []terms) []api.Poly {
	l := make([]api.Poly, len(lists))
	for i, x := range lists {
		l[i] = x.poly()
	}
	return l
}

// times returns the products of the terms of l and f.
func (l terms) times(f *api.Term) terms {
	products := make(terms, len(l))
	for i, t := range l {
		products[i] = product(f, t)
	}
	return products
}

// minus returns l - f d, of which the leading terms are the same.
func (l terms) minus(f *api.Term, d terms, order int) terms {
	l, d = l[1:], d[1:]
	left := make(terms, 0, len(l)+len(d))
	opposite := &api.Term{Coef: rational.Neg(f.Coef), Mono: f.Mono}
	for _, t := range d {
		t = product(opposite, t)
		n := l.greater(t.Mono, order)
		left = append(left, l[:n]...)
		if l = l[n:]; len(l) > 0 && slices.Equal(l[0].Mono, t.Mono) {
			t.Coef = rational.Add(l[0].Coef, t.Coef)
			l = l[1:]
		}
		if rational.Sign(t.Coef) != 0 {
			left = append(left, t)
		}
	}
	return append(left, l...)
}

// greater returns the number of terms whose monomials are greater than mono. It is often small, and so the search goes on in steps that double.
func (l terms) greater(mono api.Mono, order int) int {
	isGreater := func(n int) bool { return monomial.Cmp(l[n].Mono, mono, order) > 0 }
	first, end := 0, 1
	for end <= len(l) && isGreater(end-1) {
		first, end = end, 2*end
	}
	return first + sort.Search(min(end-1, len(l))-first, func(n int) bool { return !isGreater(first + n) })
}

// isLarge reports whether l has too many terms, or an exponent that is too great.
func (l terms) isLarge() bool {
	return len(l) > api.MaxTerms || slices.ContainsFunc(l, func(t *api.Term) bool { return isHigh(t.Mono) })
}

// isHigh reports whether an exponent of mono is greater than MaxExp.
func isHigh(mono api.Mono) bool {
	return slices.ContainsFunc(mono, func(e int) bool { return e > api.MaxExp })
}

// product returns the product of s and t.
func product(s, t *api.Term) *api.Term {
	return &api.Term{Coef: rational.Mul(s.Coef, t.Coef), Mono: monomial.Mul(s.Mono, t.Mono)}
}

// quotient returns s / t, where the monomial of t divides that of s.
func quotient(s, t *api.Term) *api.Term {
	mono, _ := monomial.Quo(s.Mono, t.Mono)
	coef, _ := rational.Div(s.Coef, t.Coef)
	return &api.Term{Coef: coef, Mono: mono}
}
