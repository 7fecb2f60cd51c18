package groebner

import (
	"geoprover/api"
	"geoprover/natural"
	"geoprover/poly"
	"geoprover/pseudo"
	"geoprover/rational"
	"geoprover/sums"
)

// ratio is a polynomial as the quotient of a primitive one and a number. Cofactors often have long fractions as coefficients; sums of products of ratios are sums of integers, and look for common divisors only in the end.
type ratio struct {
	primitive api.Poly
	divisor   api.Rat
}

// factors are two ratios other than 0 that are multiplied.
type factors struct{ left, right ratio }

// ratioOf returns p as a ratio.
func ratioOf(p api.Poly) ratio {
	primitive, divisor := pseudo.Primitive(p)
	return ratio{primitive: primitive, divisor: divisor}
}

// isZero reports whether r is 0.
func (r ratio) isZero() bool { return len(r.primitive) == 0 }

// value returns r as a polynomial, in new memory.
func (r ratio) value() api.Poly {
	inverse, _ := rational.Div(rational.Of(1), r.divisor)
	return poly.Scale(r.primitive, inverse)
}

// values returns the ratios as polynomials, in new memory.
func values(ratios []ratio) []api.Poly {
	l := make([]api.Poly, len(ratios))
	for i, r := range ratios {
		l[i] = r.value()
	}
	return l
}

// sumOf returns the sum of the products and true, or false if it is large.
func sumOf(products []factors) (ratio, bool) {
	weights := make([]api.Rat, len(products)) // of the products of the primitive polynomials
	multiple := natural.Of(1)                 // of the denominators of the weights
	for i, x := range products {
		weights[i], _ = rational.Div(rational.Of(1), rational.Mul(x.left.divisor, x.right.divisor))
		factor, _, _ := natural.DivMod(weights[i].Den, natural.Gcd(multiple, weights[i].Den))
		multiple = natural.Mul(multiple, factor)
	}
	denominator := api.Rat{Num: api.Int{Abs: multiple}, Den: natural.Of(1)}
	sum := sums.Of(nil, nil, nil)
	for i, x := range products {
		sum.Add(poly.Scale(x.left.primitive, rational.Mul(weights[i], denominator)), x.right.primitive)
	}
	p, ok := sum.Small()
	if !ok {
		return ratio{}, false
	}
	r := ratioOf(p)
	r.divisor = rational.Mul(r.divisor, denominator)
	return r, true
}
