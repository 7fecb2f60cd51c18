package poly

import (
	"slices"

	"geoprover/api"
	"geoprover/fresh"
	"geoprover/integer"
	"geoprover/monomial"
	"geoprover/natural"
	"geoprover/rational"
)

// Eval returns the value of p if each variable v has the value values[v], or ErrRange if a variable occurs that has no value.
func Eval(p api.Poly, values []api.Rat) (api.Rat, api.Errno) {
	v := mainVar(p)
	if v >= len(values) {
		return api.Rat{}, api.ErrRange
	}
	if len(p) == 0 {
		return rational.Of(0), api.OK
	}
	return horner(p, v, values), api.OK
}

// horner returns the value of p, which is not empty, with 1 in the place of the variables greater than v, which have the same exponents in all terms.
func horner(p api.Poly, v int, values []api.Rat) api.Rat {
	for v >= 0 && monomial.Exp(p[0].Mono, v) == 0 { // the greatest term lacks only variables that all terms lack
		v--
	}
	if v < 0 {
		return fresh.Rat(p[0].Coef)
	}
	value := rational.Of(0)
	for len(p) > 0 {
		n := monomial.Exp(p[0].Mono, v)
		end := 1
		for end < len(p) && monomial.Exp(p[end].Mono, v) == n {
			end++
		}
		value = rational.Add(value, horner(p[:end], v-1, values))
		p = p[end:]
		if len(p) > 0 {
			n -= monomial.Exp(p[0].Mono, v)
		}
		value = rational.Mul(value, power(values[v], n))
	}
	return value
}

// power returns a^n. Powers of the parts have no common divisor if the parts have none, and so there is nothing to reduce.
func power(a api.Rat, n int) api.Rat {
	return api.Rat{
		Num: repeat(integer.Of(1), a.Num, n, integer.Mul),
		Den: repeat(natural.Of(1), a.Den, n, natural.Mul),
	}
}

// repeat multiplies product by x, n times.
func repeat[E any](product, x E, n int, mul func(x, y E) E) E {
	for ; n > 0; n /= 2 {
		if n%2 == 1 {
			product = mul(product, x)
		}
		if n > 1 {
			x = mul(x, x)
		}
	}
	return product
}

// Subst returns p with q in the place of the variable v, by Horner's rule. It returns ErrRange unless v is from 0 to MaxVars - 1, and then ErrLarge if the degree of p in v is greater than MaxTerms, or a polynomial of the rule is large, from the first coefficient to the result.
func Subst(p api.Poly, v int, q api.Poly) (api.Poly, api.Errno) {
	if v < 0 || v >= api.MaxVars {
		return nil, api.ErrRange
	}
	degree := degreeIn(p, v)
	if degree > api.MaxTerms {
		return nil, api.ErrLarge
	}
	coefs := coefsIn(p, v)
	value := coefs[degree]
	for n := degree; ; n-- {
		if large(value) {
			return nil, api.ErrLarge
		}
		if n == 0 {
			return clone(value), api.OK
		}
		value = sum(product(value, q), coefs[n-1])
	}
}

// coefsIn returns the coefficients of the powers of v in p by their exponents, in part in the memory of p.
func coefsIn(p api.Poly, v int) map[int]api.Poly {
	coefs := map[int]api.Poly{}
	for _, t := range p {
		n := monomial.Exp(t.Mono, v)
		if n != 0 {
			t.Mono = slices.Clone(t.Mono)
			t.Mono[v] = 0
			t.Mono = monomial.Norm(t.Mono)
		}
		coefs[n] = append(coefs[n], t) // terms with equal powers of v descend without these, too
	}
	return coefs
}
