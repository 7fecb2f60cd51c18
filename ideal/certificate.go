package ideal

import (
	"slices"

	"geoprover/api"
	"geoprover/poly"
	"geoprover/pseudo"
	"geoprover/rational"
)

// Check returns OK if c is a certificate of goal for the hypotheses, and otherwise the first of these errors: those of Product for its factors and powers; ErrZero if a factor is 0; ErrRange if Power is not from 1 to 64; ErrMismatch unless there are as many cofactors as hypotheses; ErrLarge if the left side has too many terms behind some multiplication by goal; that of Combine for its cofactors and the hypotheses; ErrFalse unless the left side is their combination.
func Check(c api.Certificate, hyps []api.Poly, goal api.Poly) api.Errno {
	product, e := Product(c.Factors, c.Powers)
	switch {
	case e != api.OK:
		return e
	case slices.ContainsFunc(c.Factors, isZero):
		return api.ErrZero
	case c.Power < 1 || c.Power > maxPower:
		return api.ErrRange
	case len(c.Cofactors) != len(hyps):
		return api.ErrMismatch
	}
	left, ok := timesPower(product, goal, c.Power)
	if !ok {
		return api.ErrLarge
	}
	right, e := Combine(c.Cofactors, hyps)
	switch {
	case e != api.OK:
		return e
	case !poly.Equal(left, right):
		return api.ErrFalse
	}
	return api.OK
}

// Same reports whether a and b are equal in all parts.
func Same(a, b api.Certificate) bool {
	return slices.EqualFunc(a.Factors, b.Factors, poly.Equal) &&
		slices.Equal(a.Powers, b.Powers) &&
		a.Power == b.Power &&
		slices.EqualFunc(a.Cofactors, b.Cofactors, poly.Equal)
}

// Cancel divides both sides of c by the factor with the index i. It returns false unless there is such a factor, its power is at least 1, and it divides every cofactor.
func Cancel(c api.Certificate, i int) (api.Certificate, bool) {
	if i < 0 || i >= len(c.Factors) || len(c.Factors) != len(c.Powers) || c.Powers[i] < 1 {
		return api.Certificate{}, false
	}
	cofactors, ok := quotients(c.Cofactors, c.Factors[i])
	if !ok {
		return api.Certificate{}, false
	}
	powers := make([]int, len(c.Powers))
	copy(powers, c.Powers)
	powers[i]--
	return api.Certificate{Factors: copies(c.Factors), Powers: powers, Power: c.Power, Cofactors: cofactors}, true
}

// Minimal removes the factors that are constants or have the power 0, and then cancels as long as Cancel does, at the smallest index each time, and removes factors whose power becomes 0.
func Minimal(c api.Certificate) api.Certificate {
	if !isCancellable(c) {
		return api.Certificate{}
	}
	least := api.Certificate{Power: c.Power, Cofactors: scaled(c.Cofactors, inverseOfConstants(c))}
	for i := range len(c.Factors) {
		factor, power := c.Factors[i], c.Powers[i]
		if isConstant(factor) {
			continue
		}
		// A factor that does not divide the cofactors does not divide their quotients by another factor, so that no index is tried again.
		for power > 0 {
			cofactors, ok := quotients(least.Cofactors, factor)
			if !ok {
				break
			}
			least.Cofactors = cofactors
			power--
		}
		if power > 0 {
			least.Factors = append(least.Factors, copies([]api.Poly{factor})...)
			least.Powers = append(least.Powers, power)
		}
	}
	return least
}

// isCancellable reports whether c has as many powers as factors, powers from 0 to 64, and no factor 0.
func isCancellable(c api.Certificate) bool {
	isWrong := func(n int) bool { return n < 0 || n > maxPower }
	return len(c.Factors) == len(c.Powers) && !slices.ContainsFunc(c.Powers, isWrong) && !slices.ContainsFunc(c.Factors, isZero)
}

// inverseOfConstants returns the number whose product with the factors of c that are constants, with their powers, is 1.
func inverseOfConstants(c api.Certificate) api.Rat {
	inverse := rational.Of(1)
	for i := range len(c.Factors) {
		if !isConstant(c.Factors[i]) {
			continue
		}
		for range c.Powers[i] {
			inverse, _ = rational.Div(inverse, c.Factors[i][0].Coef)
		}
	}
	return inverse
}

// isZero reports whether p is the zero polynomial.
func isZero(p api.Poly) bool { return len(p) == 0 }

// isConstant reports whether p is a constant.
func isConstant(p api.Poly) bool { return poly.Degree(p) <= 0 }

// quotients returns the quotients of the polynomials of l and q and true, or false if one of them does not exist.
func quotients(l []api.Poly, q api.Poly) ([]api.Poly, bool) {
	divided := make([]api.Poly, len(l))
	for k := range len(l) {
		quotient, ok := pseudo.Exact(l[k], q)
		if !ok {
			return nil, false
		}
		divided[k] = quotient
	}
	return divided, true
}

// copies returns the polynomials of l in new memory.
func copies(l []api.Poly) []api.Poly {
	return scaled(l, rational.Of(1))
}

// scaled returns the products of the polynomials of l and the number a, in new memory.
func scaled(l []api.Poly, a api.Rat) []api.Poly {
	products := make([]api.Poly, len(l))
	for k := range len(l) {
		products[k] = poly.Scale(l[k], a)
	}
	return products
}
