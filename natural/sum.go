package natural

import (
	"math/bits"

	"geoprover/api"
)

// Add returns the sum of a and b.
func Add(a, b api.Nat) api.Nat {
	a, b = trim(a), trim(b)
	if len(a) < len(b) {
		a, b = b, a
	}
	sum := make(api.Nat, len(a)+1)
	copy(sum, a)
	var carry uint32
	for i, limb := range b {
		carry += uint32(sum[i]) + uint32(limb)
		sum[i] = uint16(carry)
		carry >>= limbBits
	}
	for i := len(b); carry != 0; i++ {
		carry += uint32(sum[i])
		sum[i] = uint16(carry)
		carry >>= limbBits
	}
	return trim(sum)
}

// Sub returns a - b, or ErrRange if a is less than b.
func Sub(a, b api.Nat) (api.Nat, api.Errno) {
	a, b = trim(a), trim(b)
	if Cmp(a, b) < 0 {
		return nil, api.ErrRange
	}
	rest := clone(a)
	var borrow uint32
	for i, limb := range b {
		// The difference wraps around if it is negative; its bit 16 is the next borrow then.
		wide := uint32(rest[i]) - uint32(limb) - borrow
		rest[i] = uint16(wide)
		borrow = wide >> limbBits & 1
	}
	for i := len(b); borrow != 0; i++ {
		wide := uint32(rest[i]) - borrow
		rest[i] = uint16(wide)
		borrow = wide >> limbBits & 1
	}
	return trim(rest), api.OK
}

// Mul returns the product of a and b.
func Mul(a, b api.Nat) api.Nat {
	a, b = trim(a), trim(b)
	if len(a) <= wordLimbs && len(b) <= wordLimbs {
		high, low := bits.Mul64(word(a), word(b))
		return unpack([]uint64{low, high})
	}
	x, y := pack(a), pack(b)
	product := make([]uint64, len(x)+len(y))
	for i, w := range x {
		product[i+len(y)] = addProduct(product[i:i+len(y)], y, w)
	}
	return unpack(product)
}
