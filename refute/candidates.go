package refute

import (
	"iter"
	"math/bits"

	"geoprover/api"
	"geoprover/instance"
	"geoprover/rational"
)

// candidate is a value for each parameter of a figure and a branch for each step with two solutions.
type candidate struct {
	values   []api.Rat
	branches []bool
}

// candidates yields the candidates 0, 1, .., most - 1 of f with their numbers, or none if f is not valid.
func candidates(f api.Figure, most int) iter.Seq2[int, candidate] {
	return func(yield func(k int, c candidate) bool) {
		params, solutions, e := instance.Choices(f)
		if e != api.OK {
			return
		}
		for k := range most {
			if !yield(k, nth(k, params, solutions)) {
				return
			}
		}
	}
}

// instances yields the instances of those of the candidates that have one, with the numbers of the candidates.
func instances(f api.Figure, most int) iter.Seq2[int, api.Instance] {
	return func(yield func(k int, x api.Instance) bool) {
		for k, c := range candidates(f, most) {
			x, _, e := instance.At(f, c.values, c.branches)
			if e == api.OK && !yield(k, x) {
				return
			}
		}
	}
}

// nth returns the candidate k, from 0 on, of a figure with so many parameters and branches. The digits of k belong to the branches first, and then to the values in turn. The changed bits let the first candidates have different values, few of which are 0.
func nth(k, params, solutions int) candidate {
	var c candidate
	for i := range solutions {
		c.branches = append(c.branches, k>>i&1 == 1)
	}
	for i := range params {
		c.values = append(c.values, Value(every(k>>solutions, i, params)^(i+1)))
	}
	return c
}

// every returns the number whose digits are those of m with the numbers i, i + n, i + 2n and so on.
func every(m, i, n int) int {
	number := 0
	for digit := 0; m>>i > 0; digit++ {
		number |= (m >> i & 1) << digit
		i += n
	}
	return number
}

// Value returns the number with which the values begin for k = 0, which is 0, and then the positive rational numbers, each of them followed by its negative. For negative k it returns 0.
func Value(k int) api.Rat {
	if k <= 0 {
		return rational.Of(0)
	}
	a := positive(k/2 + k%2) // k + 1 may be too large
	if k%2 == 0 {
		return rational.Neg(a)
	}
	return a
}

// positive returns the positive number q(j), for j from 1 on. Its numerator and denominator are at most Fibonacci numbers with the number of digits of j, so that an int holds them.
func positive(j int) api.Rat {
	a, b := 1, 1
	for i := bits.Len(uint(j)) - 2; i >= 0; i-- {
		if j>>i&1 == 1 {
			a += b
		} else {
			b += a
		}
	}
	return rational.Frac(a, b)
}
