// Package natural is layer 1: natural numbers. See shared/doc/01-natural.md.
//
// Numbers come and go as limbs of 16 bits. What takes many steps for each limb
// (products, quotients, divisors, texts) is computed with words of 64 bits.
package natural

import (
	"cmp"
	"math/bits"

	"geoprover/api"
)

// limbBits is the number of bits of a limb.
const limbBits = 16

// Norm returns the valid Nat with the value of a.
func Norm(a api.Nat) api.Nat {
	return clone(trim(a))
}

// Of returns the valid Nat with the value n.
func Of(n uint64) api.Nat {
	return unpack([]uint64{n})
}

// Uint returns the value of a and true if it is less than 2^64, and 0 and false otherwise.
func Uint(a api.Nat) (uint64, bool) {
	a = trim(a)
	if len(a) > wordLimbs {
		return 0, false
	}
	return word(a), true
}

// Bits returns the number of binary digits of a, 0 for 0.
func Bits(a api.Nat) int {
	a = trim(a)
	if len(a) == 0 {
		return 0
	}
	top := len(a) - 1
	return top*limbBits + bits.Len16(a[top])
}

// Cmp returns -1, 0 or 1 if a is less than, equal to, or greater than b.
func Cmp(a, b api.Nat) int {
	a, b = trim(a), trim(b)
	if len(a) != len(b) {
		return cmp.Compare(len(a), len(b))
	}
	for i := len(a) - 1; i >= 0; i-- {
		if a[i] != b[i] {
			return cmp.Compare(a[i], b[i])
		}
	}
	return 0
}

// trim returns the part of a without leading zeros, in the memory of a.
func trim[S ~[]W, W uint16 | uint64](a S) S {
	for len(a) > 0 && a[len(a)-1] == 0 {
		a = a[:len(a)-1]
	}
	return a
}

// clone returns the limbs of a in new memory, since no result may share that of an argument.
func clone(a api.Nat) api.Nat {
	c := make(api.Nat, len(a))
	copy(c, a)
	return c
}
