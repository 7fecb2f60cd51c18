package rational

import (
	"geoprover/api"
	"geoprover/integer"
	"geoprover/natural"
)

// Floor returns the greatest integer that is not greater than a.
func Floor(a api.Rat) api.Int {
	num, den := parts(a)
	floor, _, _ := integer.DivMod(num, whole(den))
	return floor
}

// Sqrt returns the number that is not negative and has the square a, and true, or the zero Rat and false if no rational number has this square.
func Sqrt(a api.Rat) (api.Rat, bool) {
	// In lowest terms the numerator and the denominator of a square are squares.
	square := lowest(parts(a))
	if square.Num.Neg {
		return api.Rat{}, false
	}
	num, numRest := natural.Sqrt(square.Num.Abs)
	den, denRest := natural.Sqrt(square.Den)
	if len(numRest) > 0 || len(denRest) > 0 {
		return api.Rat{}, false
	}
	return api.Rat{Num: whole(num), Den: den}, true
}
