package monomial

import "geoprover/api"

// Mul returns the product of a and b.
func Mul(a, b api.Mono) api.Mono {
	return combine(a, b, func(x, y int) int { return x + y })
}

// Lcm returns the least common multiple of a and b.
func Lcm(a, b api.Mono) api.Mono {
	return combine(a, b, func(x, y int) int { return max(x, y) })
}

// Divides reports whether no exponent of a is greater than that of b.
func Divides(a, b api.Mono) bool {
	for v, e := range a {
		if e > Exp(b, v) {
			return false
		}
	}
	return true
}

// Quo returns a / b and true if b divides a, and otherwise 1 and false.
func Quo(a, b api.Mono) (api.Mono, bool) {
	if !Divides(b, a) {
		return nil, false
	}
	return combine(a, b, func(x, y int) int { return x - y }), true
}

// Coprime reports whether no variable occurs in both a and b.
func Coprime(a, b api.Mono) bool {
	for v, e := range a {
		if e != 0 && Exp(b, v) != 0 {
			return false
		}
	}
	return true
}

// combine returns what f makes of the exponents of a and b, where those that are missing are 0, without zeros at the end.
func combine[S ~[]E, E comparable](a, b S, f func(x, y E) E) S {
	var zero E
	c := make(S, max(len(a), len(b)))
	for i := range c {
		x, y := zero, zero
		if i < len(a) {
			x = a[i]
		}
		if i < len(b) {
			y = b[i]
		}
		c[i] = f(x, y)
	}
	return trim(c)
}
