package triangular_test

import (
	"math"
	"math/rand"
	"testing"

	"geoprover/api"
	"geoprover/natural"
	"geoprover/triangular"
)

// randomTerms returns a list of terms that is rarely a valid polynomial.
func randomTerms(r *rand.Rand) api.Poly {
	exponents := []int{0, 0, 0, 1, 1, 2, 3, -1, -2, api.MaxExp + 1, math.MaxInt, math.MaxInt - 1, math.MinInt}
	lengths := []int{0, 1, 1, 2, 2, 3, api.MaxVars + 2}
	p := make(api.Poly, r.Intn(4))
	for i := range p {
		mono := make(api.Mono, lengths[r.Intn(len(lengths))])
		for v := range mono {
			mono[v] = exponents[r.Intn(len(exponents))]
		}
		num := api.Int{Neg: r.Intn(2) == 0, Abs: append(natural.Of(r.Uint64()%4), make(api.Nat, r.Intn(2))...)}
		p[i] = api.Term{Coef: api.Rat{Num: num, Den: natural.Of(r.Uint64() % 3)}, Mono: mono}
	}
	return p
}

// Nothing is promised for arguments that are not valid (R2), but for p and the chain of Reduce, and the list of Right; functions return all the same.
func TestInvalidArguments(t *testing.T) {
	r := newSource()
	for range 5 * rounds {
		list := make([]api.Poly, r.Intn(5))
		for i := range list {
			list[i] = randomTerms(r)
		}
		p := randomTerms(r)
		elements, e := triangular.Make(list)
		if chain := polysOf(elements); e == api.OK && !triangular.Right(chain) {
			t.Fatalf("Make of %v returns %v", list, elements)
		}
		triangular.Initials(list)
		if _, e := triangular.Reduce(p, list); e != api.OK && e != api.ErrArg && e != api.ErrOrder {
			t.Fatalf("Reduce of %v by %v returns %d", p, list, e)
		}
	}
}
