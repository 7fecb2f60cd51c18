package natural

import (
	"math/bits"

	"geoprover/api"
)

// Sqrt returns the greatest number whose square is at most a, and a minus this square.
//
// Newton's iteration doubles the number of correct bits of the root in each step, so that each step needs only the highest bits of a. The root never differs from the exact one by more than 1.
func Sqrt(a api.Nat) (root, rest api.Nat) {
	a = trim(a)
	if len(a) == 0 {
		return nil, nil
	}
	half := (Bits(a) - 1) / 2 // the root has half + 1 bits
	one := Of(1)
	root = one
	known := 0
	for level := bits.Len(uint(half)) - 1; level >= 0; level-- {
		wanted := half >> level
		quotient, _, _ := DivMod(shiftRight(a, 2*half-known-wanted+1), root)
		root = Add(shiftLeft(root, wanted-known-1), quotient)
		known = wanted
	}
	rest, e := Sub(a, Mul(root, root))
	if e != api.OK { // the root is 1 too great
		root, _ = Sub(root, one)
		rest, _ = Sub(a, Mul(root, root))
	}
	return root, rest
}
