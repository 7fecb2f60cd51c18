package ideal_test

import (
	"math"
	"math/rand"
	"testing"

	"geoprover/api"
	"geoprover/ideal"
	"geoprover/natural"
)

// randomTerms returns a list of terms that is rarely a valid polynomial.
func randomTerms(r *rand.Rand) api.Poly {
	exponents := []int{0, 0, 0, 1, 1, 2, 3, -1, -2, api.MaxExp + 1, math.MaxInt, math.MaxInt - 1, math.MinInt}
	lengths := []int{0, 1, 1, 2, 2, 3, api.MaxVars + 2}
	p := make(api.Poly, r.Intn(4))
	for i := range p {
		mono := make(api.Mono, lengths[r.Intn(len(lengths))])
		for v := range mono {
			mono[v] = exponents[r.Intn(len(exponents))]
		}
		num := api.Int{Neg: r.Intn(2) == 0, Abs: append(natural.Of(r.Uint64()%4), make(api.Nat, r.Intn(2))...)}
		p[i] = api.Term{Coef: api.Rat{Num: num, Den: natural.Of(r.Uint64() % 3)}, Mono: mono}
	}
	return p
}

// Nothing is promised for arguments that are not valid (R2), but functions return all the same.
func TestInvalidArguments(t *testing.T) {
	r := newSource()
	powers := []int{0, 1, 1, 2, 3, 64, 65, -1, math.MaxInt, math.MinInt}
	lists := func() []api.Poly {
		l := make([]api.Poly, r.Intn(4))
		for i := range l {
			l[i] = randomTerms(r)
		}
		return l
	}
	for range 5 * rounds {
		c := api.Certificate{Factors: lists(), Powers: make([]int, r.Intn(4)), Power: powers[r.Intn(len(powers))], Cofactors: lists()}
		for i := range c.Powers {
			c.Powers[i] = powers[r.Intn(len(powers))]
		}
		hyps, goal := lists(), randomTerms(r)
		ideal.Combine(c.Cofactors, hyps)
		ideal.Right(api.Element{Poly: goal, Cofactors: c.Cofactors}, hyps)
		ideal.Product(c.Factors, c.Powers)
		ideal.Check(c, hyps, goal)
		for i := -1; i < 4; i++ {
			ideal.Cancel(c, i)
		}
		ideal.Minimal(c)
		ideal.Same(c, ideal.Minimal(c))
	}
}
