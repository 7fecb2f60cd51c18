package rational

import (
	"geoprover/api"
	"geoprover/integer"
)

// Sign returns -1, 0 or 1 if a is less than, equal to, or greater than 0.
func Sign(a api.Rat) int {
	num, _ := parts(a)
	return integer.Sign(num)
}

// Cmp returns -1, 0 or 1 if a is less than, equal to, or greater than b.
func Cmp(a, b api.Rat) int {
	p, q := parts(a)
	r, s := parts(b)
	return integer.Cmp(integer.Mul(p, whole(s)), integer.Mul(r, whole(q)))
}

// Equal reports whether a and b have the same value.
func Equal(a, b api.Rat) bool {
	return Cmp(a, b) == 0
}
