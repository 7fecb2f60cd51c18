package natural

import (
	"math"
	"math/bits"

	"geoprover/api"
)

// DivMod returns q and r with a = q b + r and r less than b, or ErrZero if b is 0.
func DivMod(a, b api.Nat) (q, r api.Nat, e api.Errno) {
	a, b = trim(a), trim(b)
	switch {
	case len(b) == 0:
		return nil, nil, api.ErrZero
	case len(a) < len(b):
		return nil, clone(a), api.OK
	case len(a) <= wordLimbs:
		x, y := word(a), word(b)
		return Of(x / y), Of(x % y), api.OK
	case len(b) <= wordLimbs:
		quotient := pack(a)
		rest := divideByWord(quotient, word(b))
		return unpack(quotient), Of(rest), api.OK
	}
	quotient, rest := divide(pack(a), pack(b))
	return unpack(quotient), unpack(rest), api.OK
}

// divide returns the quotient and the rest of u by v. v has at least two words and no leading zeros, and u at least as many words.
//
// This is the division by hand in base 2^64: v is shifted so that its highest bit is set, since then its two highest words determine a digit up to 1.
func divide(u, v []uint64) (quotient, rest []uint64) {
	shift := bits.LeadingZeros64(v[len(v)-1])
	u, v = shiftUp(u, shift), shiftUp(v, shift)
	n := len(v) - 1 // shiftUp adds a word, which is 0 here
	v = v[:n]
	first, second := v[n-1], v[n-2]

	// digit returns the quotient digit for the three highest words of the rest, or 1 more.
	digit := func(high, middle, low uint64) uint64 {
		if high >= first {
			return math.MaxUint64
		}
		d, left := bits.Div64(high, middle, first)
		for {
			over, under := bits.Mul64(d, second)
			if over < left || over == left && under <= low {
				return d
			}
			d--
			left += first
			if left < first { // left exceeds a word, and so d is not too great any more
				return d
			}
		}
	}

	quotient = make([]uint64, len(u)-n)
	for i := len(quotient) - 1; i >= 0; i-- {
		part := u[i : i+n]
		top := u[i+n]
		d := digit(top, part[n-1], part[n-2])
		if top < subProduct(part, v, d) {
			d--
			addWords(part, v)
		}
		u[i+n] = 0
		quotient[i] = d
	}
	return quotient, shiftDown(u, shift)
}

// shiftUp returns w 2^n with one word more, for n from 0 to 63.
func shiftUp(w []uint64, n int) []uint64 {
	s := make([]uint64, len(w)+1)
	for i, x := range w {
		s[i] |= x << n
		s[i+1] = x >> (64 - n)
	}
	return s
}

// shiftDown returns w / 2^n, rounded down, for n from 0 to 63.
func shiftDown(w []uint64, n int) []uint64 {
	s := make([]uint64, len(w))
	for i, x := range w {
		s[i] = x >> n
		if i > 0 {
			s[i-1] |= x << (64 - n)
		}
	}
	return s
}
