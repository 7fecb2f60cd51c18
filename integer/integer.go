// Package integer is layer 2: integers. See shared/doc/02-integer.md.
package integer

import (
	"geoprover/api"
	"geoprover/natural"
)

// Right reports whether a is valid.
func Right(a api.Int) bool {
	n := len(a.Abs)
	if n == 0 {
		return !a.Neg
	}
	return a.Abs[n-1] != 0
}

// Norm returns the valid Int with the value of a.
func Norm(a api.Int) api.Int {
	return signed(a.Neg, magnitude(a))
}

// Of returns the valid Int with the value n.
func Of(n int) api.Int {
	if n < 0 {
		return signed(true, natural.Of(-uint64(n))) // wraps around to the absolute value, that of the least int included
	}
	return signed(false, natural.Of(uint64(n)))
}

// Sign returns -1, 0 or 1 if a is less than, equal to, or greater than 0.
func Sign(a api.Int) int {
	switch {
	case natural.Bits(a.Abs) == 0:
		return 0
	case a.Neg:
		return -1
	}
	return 1
}

// Cmp returns -1, 0 or 1 if a is less than, equal to, or greater than b.
func Cmp(a, b api.Int) int {
	compare := func(x, y api.Int) int { return natural.Cmp(x.Abs, y.Abs) }
	s, t := Sign(a), Sign(b)
	switch {
	case s < t:
		return -1
	case s > t:
		return 1
	case s < 0:
		return compare(b, a)
	}
	return compare(a, b)
}

// Neg returns -a.
func Neg(a api.Int) api.Int {
	return signed(!a.Neg, magnitude(a))
}

// signed returns the number with the absolute value abs, which is negative if neg is true and abs is not 0. It takes over the memory of abs, which must be valid.
func signed(neg bool, abs api.Nat) api.Int {
	return api.Int{Neg: neg && len(abs) > 0, Abs: abs}
}

// magnitude returns the valid absolute value of a in new memory, since no result may share that of an argument.
func magnitude(a api.Int) api.Nat {
	const limbBits = 16
	limbs := (natural.Bits(a.Abs) + limbBits - 1) / limbBits
	abs := make(api.Nat, limbs)
	copy(abs, a.Abs)
	return abs
}
