package groebner

import (
	"slices"

	"geoprover/api"
	"geoprover/monomial"
	"geoprover/poly"
	"geoprover/rational"
	"geoprover/sums"
)

// basis is a list of elements that becomes a Groebner basis.
type basis struct {
	order     int
	size      int       // the number of polynomials that generate the ideal
	divisors  []divisor // the polynomials of the elements, with the leading coefficient 1
	cofactors [][]ratio // the cofactors of each element
	examined  map[couple]bool
}

// couple is the indices of two elements.
type couple struct{ i, k int }

// search returns the basis of the polynomials and true, or false if a polynomial is large or there are too many pairs.
func search(generators []api.Poly, order int) (*basis, bool) {
	b := &basis{order: order, size: len(generators), examined: map[couple]bool{}}
	for i, p := range generators {
		if sums.Large(p) {
			return nil, false
		}
		cofactors := slices.Repeat([]ratio{ratioOf(nil)}, len(generators))
		cofactors[i] = ratioOf(poly.Const(rational.Of(1)))
		if l := termsOf(p, order); len(l) > 0 {
			b.add(l, cofactors)
		}
	}
	for k := 1; k < len(b.divisors); k++ {
		for i := range k {
			if !b.examine(couple{i, k}) {
				return nil, false
			}
		}
	}
	return b, true
}

// add appends the element with the terms l and these cofactors, divided by its leading coefficient.
func (b *basis) add(l terms, cofactors []ratio) {
	lead := l[0].Coef
	inverse, _ := rational.Div(rational.Of(1), lead)
	b.divisors = append(b.divisors, divisorOf(l.times(&api.Term{Coef: inverse})))
	quotients := make([]ratio, len(cofactors))
	for n, c := range cofactors {
		quotients[n] = ratio{primitive: c.primitive, divisor: rational.Mul(c.divisor, lead)}
	}
	b.cofactors = append(b.cofactors, quotients)
}

// examine adds the rest of the pair of the elements c, if there is one. It returns false if a polynomial is large or too many pairs were examined before.
func (b *basis) examine(c couple) bool {
	first, second := b.divisors[c.i], b.divisors[c.k]
	if monomial.Coprime(first.lead(), second.lead()) {
		return true
	}
	if len(b.examined) == api.MaxPairs {
		return false
	}
	b.examined[c] = true
	x, ok := pairOf(first.terms, second.terms, b.order)
	if !ok {
		return false
	}
	quotients, rest, ok := divide(x.difference, b.divisors, b.order)
	if !ok {
		return false
	}
	if len(rest) == 0 {
		return true
	}
	multipliers := polys(quotients)
	for n, q := range multipliers {
		multipliers[n] = poly.Neg(q)
	}
	multipliers[c.i] = poly.Add(multipliers[c.i], api.Poly{*x.first})
	multipliers[c.k] = poly.Sub(multipliers[c.k], api.Poly{*x.second})
	cofactors, ok := b.combinations(multipliers)
	if ok {
		b.add(rest, cofactors)
	}
	return ok
}

// combinations returns the cofactors of the sum of the products of the multipliers and the elements and true, or false if one of them is large.
func (b *basis) combinations(multipliers []api.Poly) ([]ratio, bool) {
	lefts := make([]ratio, len(multipliers))
	for i, m := range multipliers {
		lefts[i] = ratioOf(m)
	}
	combinations := make([]ratio, b.size)
	for n := range combinations {
		var products []factors
		for i, left := range lefts {
			if right := b.cofactors[i][n]; !left.isZero() && !right.isZero() {
				products = append(products, factors{left, right})
			}
		}
		sum, ok := sumOf(products)
		if !ok {
			return nil, false
		}
		combinations[n] = sum
	}
	return combinations, true
}
