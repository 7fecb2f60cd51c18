package integer

import (
	"geoprover/api"
	"geoprover/natural"
)

// Add returns the sum of a and b.
func Add(a, b api.Int) api.Int {
	return sum(a, b, b.Neg)
}

// Sub returns a - b.
func Sub(a, b api.Int) api.Int {
	return sum(a, b, !b.Neg)
}

// sum returns the sum of a and the number with the absolute value of b that is negative if neg is true.
func sum(a, b api.Int, neg bool) api.Int {
	if a.Neg == neg {
		return signed(neg, natural.Add(a.Abs, b.Abs))
	}
	less := func(x, y api.Nat) bool { return natural.Cmp(x, y) < 0 }
	if less(a.Abs, b.Abs) {
		rest, _ := natural.Sub(b.Abs, a.Abs)
		return signed(neg, rest)
	}
	rest, _ := natural.Sub(a.Abs, b.Abs)
	return signed(a.Neg, rest)
}

// Mul returns the product of a and b.
func Mul(a, b api.Int) api.Int {
	return signed(a.Neg != b.Neg, natural.Mul(a.Abs, b.Abs))
}

// DivMod returns q and r with a = q b + r, where r is not negative and less than the absolute value of b, or ErrZero if b is 0.
func DivMod(a, b api.Int) (q, r api.Int, e api.Errno) {
	quotient, rest, e := natural.DivMod(a.Abs, b.Abs)
	if e != api.OK {
		return api.Int{}, api.Int{}, e
	}
	if a.Neg && len(rest) > 0 {
		// -(q b + r) = -(q + 1) b + (b - r), where b - r is not negative as r must be.
		quotient = natural.Add(quotient, natural.Of(1))
		rest, _ = natural.Sub(b.Abs, rest)
	}
	return signed(a.Neg != b.Neg, quotient), signed(false, rest), api.OK
}

// Gcd returns the greatest common divisor of the absolute values of a and b.
func Gcd(a, b api.Int) api.Nat {
	return natural.Gcd(a.Abs, b.Abs)
}
