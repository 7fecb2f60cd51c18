package rational

import (
	"geoprover/api"
	"geoprover/integer"
	"geoprover/natural"
)

// Neg returns -a.
func Neg(a api.Rat) api.Rat {
	return lowest(parts(opposite(a)))
}

// Add returns the sum of a and b.
func Add(a, b api.Rat) api.Rat {
	return sum(a, b)
}

// Sub returns a - b.
func Sub(a, b api.Rat) api.Rat {
	return sum(a, opposite(b))
}

// Mul returns the product of a and b.
func Mul(a, b api.Rat) api.Rat {
	p, q := parts(a)
	r, s := parts(b)
	return lowest(integer.Mul(p, r), denominator(q, s))
}

// Div returns a / b, or ErrZero if b is 0.
func Div(a, b api.Rat) (api.Rat, api.Errno) {
	p, q := parts(a)
	r, s := parts(b)
	return Make(integer.Mul(p, whole(s)), integer.Mul(r, whole(q)))
}

// opposite returns a number with the value -a, in the memory of a.
func opposite(a api.Rat) api.Rat {
	a.Num.Neg = !a.Num.Neg
	return a
}

// sum returns the sum of the numbers.
func sum(first api.Rat, others ...api.Rat) api.Rat {
	num, den := parts(first)
	for _, x := range others {
		n, d := parts(x)
		if !isOne(d) {
			num = integer.Mul(num, whole(d))
		}
		if !isOne(den) {
			n = integer.Mul(n, whole(den))
		}
		num, den = integer.Add(num, n), denominator(den, d)
	}
	return lowest(num, den)
}

// denominator returns the product of two denominators, which are often 1.
func denominator(q, s api.Nat) api.Nat {
	switch {
	case isOne(q):
		return s
	case isOne(s):
		return q
	}
	return natural.Mul(q, s)
}
