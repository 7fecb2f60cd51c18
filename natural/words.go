package natural

import (
	"math/bits"

	"geoprover/api"
)

// wordLimbs is the number of limbs of a word.
const wordLimbs = 4

// word returns the value of a, which has at most wordLimbs limbs.
func word(a api.Nat) uint64 {
	var w uint64
	for i := len(a) - 1; i >= 0; i-- {
		w = w<<limbBits | uint64(a[i])
	}
	return w
}

// pack returns the limbs of a as words in new memory, the least significant one first.
func pack(a api.Nat) []uint64 {
	w := make([]uint64, (len(a)+wordLimbs-1)/wordLimbs)
	for i := range w {
		first := i * wordLimbs
		w[i] = word(a[first:min(first+wordLimbs, len(a))])
	}
	return w
}

// unpack returns the valid Nat with the value of the words w.
func unpack(w []uint64) api.Nat {
	w = trim(w)
	if len(w) == 0 {
		return nil
	}
	top := len(w) - 1
	topLimbs := (bits.Len64(w[top]) + limbBits - 1) / limbBits
	a := make(api.Nat, top*wordLimbs+topLimbs)
	for i := range a {
		a[i] = uint16(w[i/wordLimbs] >> (i % wordLimbs * limbBits))
	}
	return a
}

// addProduct adds b x to the words p, which are as many as those of b, and returns the carry.
func addProduct(p, b []uint64, x uint64) uint64 {
	var carry uint64
	for i, y := range b {
		high, low := bits.Mul64(x, y)
		low, c := bits.Add64(low, p[i], 0)
		high += c
		p[i], c = bits.Add64(low, carry, 0)
		carry = high + c
	}
	return carry
}

// subProduct subtracts b x from the words p, which are as many as those of b, and returns what is still to be subtracted from the word behind them.
func subProduct(p, b []uint64, x uint64) uint64 {
	var carry uint64
	for i, y := range b {
		high, low := bits.Mul64(x, y)
		low, c := bits.Add64(low, carry, 0)
		high += c
		p[i], c = bits.Sub64(p[i], low, 0)
		carry = high + c
	}
	return carry
}

// addWords adds the words b to the words p, which are as many, and returns the carry.
func addWords(p, b []uint64) uint64 {
	var carry uint64
	for i, y := range b {
		p[i], carry = bits.Add64(p[i], y, carry)
	}
	return carry
}

// divideByWord replaces the words w by their quotient by x, and returns the rest.
func divideByWord(w []uint64, x uint64) uint64 {
	var rest uint64
	for i := len(w) - 1; i >= 0; i-- {
		w[i], rest = bits.Div64(rest, w[i], x)
	}
	return rest
}
