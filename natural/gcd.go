package natural

import (
	"math/bits"

	"geoprover/api"
)

// Gcd returns the greatest common divisor of a and b; that of 0 and a is a.
func Gcd(a, b api.Nat) api.Nat {
	a, b = trim(a), trim(b)
	if Cmp(a, b) < 0 {
		a, b = b, a
	}
	switch {
	case len(b) == 0:
		return clone(a)
	case len(a) <= wordLimbs:
		return Of(wordGcd(word(a), word(b)))
	case len(b) <= wordLimbs:
		divisor := word(b)
		return Of(wordGcd(divisor, divideByWord(pack(a), divisor)))
	}
	return unpack(wordsGcd(pack(a), pack(b)))
}

// wordGcd returns the greatest common divisor of x and y by subtraction and halving.
func wordGcd(x, y uint64) uint64 {
	if x == 0 || y == 0 {
		return x | y
	}
	twos := bits.TrailingZeros64(x | y)
	x >>= bits.TrailingZeros64(x)
	for y != 0 {
		y >>= bits.TrailingZeros64(y)
		if x > y {
			x, y = y, x
		}
		y -= x
	}
	return x << twos
}

// wordsGcd returns the greatest common divisor of a and b by Lehmer's algorithm. a must not be less than b.
//
// It is Euclid's algorithm, but the quotients are taken from the highest bits alone as long as these determine them, so that many of its steps cost one pass over the words.
func wordsGcd(a, b []uint64) []uint64 {
	x, y := a, make([]uint64, len(a))
	copy(y, b)
	nextX, nextY := make([]uint64, len(a)), make([]uint64, len(a))
	for {
		n := len(trim(x))
		x, y, nextX, nextY = x[:n], y[:n], nextX[:n], nextY[:n]
		divisor := trim(y)
		switch len(divisor) {
		case 0:
			return x
		case 1:
			return []uint64{wordGcd(divisor[0], divideByWord(x, divisor[0]))}
		}
		r := euclid(leading(x, y))
		if r.steps == 0 { // the leading bits determine no quotient
			_, rest := divide(x, divisor)
			copy(x, rest)
			x, y = y, x
			continue
		}
		r.of(x, y, nextX, nextY)
		x, y, nextX, nextY = nextX, nextY, x, y
	}
}

// leading returns the 64 bits of x from its highest one on, and the bits of y at the same places. x and y have the same length, at least 2, and the last word of x is not 0.
func leading(x, y []uint64) (high, other uint64) {
	n := len(x)
	shift := bits.LeadingZeros64(x[n-1])
	high = x[n-1]<<shift | x[n-2]>>(64-shift)
	other = y[n-1]<<shift | y[n-2]>>(64-shift)
	return high, other
}

// rests is what some steps of Euclid's algorithm make of two numbers x and y. After an even number of steps these are x0 x - y0 y and y1 y - x1 x; after an odd one, the negatives of both.
type rests struct {
	x0, y0, x1, y1 uint64
	steps          int
}

// euclid returns the effect of the steps of Euclid's algorithm that all numbers with these leading bits have in common.
//
// A rest is known up to less than y1, since y1 is the greatest number by which the unknown bits are multiplied. Therefore a step is certain if the new rest is at least y1 (so that it is not negative), and differs from the divisor by at least y0 + y1 (so that it is less). Both conditions keep y1 below 2^32.
func euclid(high, other uint64) rests {
	r := rests{x0: 1, y1: 1}
	for other > 0 {
		q, rest := high/other, high%other
		next := rests{r.x1, r.y1, r.x0 + q*r.x1, r.y0 + q*r.y1, r.steps + 1}
		if rest < next.y1 || other-rest < next.y0+next.y1 {
			break
		}
		r, high, other = next, other, rest
	}
	return r
}

// of writes the rests of x and y to nextX and nextY. All four have the same length.
func (r rests) of(x, y, nextX, nextY []uint64) {
	if r.steps%2 == 0 {
		difference(nextX, r.x0, x, r.y0, y)
		difference(nextY, r.y1, y, r.x1, x)
	} else {
		difference(nextX, r.y0, y, r.x0, x)
		difference(nextY, r.x1, x, r.y1, y)
	}
}

// difference writes p x - q y, which is not negative and fits, to d. All three have the same length.
func difference(d []uint64, p uint64, x []uint64, q uint64, y []uint64) {
	var plus, minus, borrow, c uint64
	for i := range d {
		plusHigh, plusLow := bits.Mul64(p, x[i])
		plusLow, c = bits.Add64(plusLow, plus, 0)
		plus = plusHigh + c
		minusHigh, minusLow := bits.Mul64(q, y[i])
		minusLow, c = bits.Add64(minusLow, minus, 0)
		minus = minusHigh + c
		d[i], borrow = bits.Sub64(plusLow, minusLow, borrow)
	}
}
