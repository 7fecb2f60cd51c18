package interval

import (
	"geoprover/api"
	"geoprover/integer"
	"geoprover/natural"
	"geoprover/rational"
)

// Round returns the least interval with end points on the grid of bits that contains a, or ErrRange unless bits is from 0 to MaxBits.
func Round(a api.Interval, bits int) (api.Interval, api.Errno) {
	if !isGrid(bits) {
		return api.Interval{}, api.ErrRange
	}
	return onGrid(scaledFloor(a.Lo, bits), scaledCeiling(a.Hi, bits), bits), api.OK
}

// Sqrt returns the least interval with end points on the grid of bits that contains the square roots of all numbers of a that are not negative, or ErrRange if there are none, or unless bits is from 0 to MaxBits.
func Sqrt(a api.Interval, bits int) (api.Interval, api.Errno) {
	if !isGrid(bits) || rational.Sign(a.Hi) < 0 {
		return api.Interval{}, api.ErrRange
	}
	// With n = 2^bits, the root of x is at least m / n exactly if x n^2 is at least m^2, and at most m / n exactly if it is at most m^2: only the integers around x n^2 matter.
	lo, _ := natural.Sqrt(scaledFloor(greatest(a.Lo, rational.Of(0)), 2*bits).Abs)
	hi, rest := natural.Sqrt(scaledCeiling(a.Hi, 2*bits).Abs)
	if len(rest) > 0 {
		hi = natural.Add(hi, natural.Of(1))
	}
	return onGrid(api.Int{Abs: lo}, api.Int{Abs: hi}, bits), api.OK
}

// isGrid reports whether there is a grid of bits.
func isGrid(bits int) bool {
	return bits >= 0 && bits <= api.MaxBits
}

// power returns 2^bits.
func power(bits int) api.Int {
	return api.Int{Abs: natural.Shift(natural.Of(1), bits)}
}

// scaledFloor returns the greatest integer that is not greater than a 2^bits.
func scaledFloor(a api.Rat, bits int) api.Int {
	return rational.Floor(api.Rat{Num: integer.Mul(a.Num, power(bits)), Den: a.Den})
}

// scaledCeiling returns the least integer that is not less than a 2^bits.
func scaledCeiling(a api.Rat, bits int) api.Int {
	return integer.Neg(scaledFloor(rational.Neg(a), bits))
}

// onGrid returns the interval from lo to hi in units of 2^-bits.
func onGrid(lo, hi api.Int, bits int) api.Interval {
	unit := power(bits)
	from, _ := rational.Make(lo, unit)
	to, _ := rational.Make(hi, unit)
	return api.Interval{Lo: from, Hi: to}
}
