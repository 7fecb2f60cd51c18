package pseudo_test

import (
	"math"
	"math/rand"
	"testing"

	"geoprover/api"
	"geoprover/natural"
	"geoprover/poly"
	"geoprover/pseudo"
)

// randomTerms returns a list of terms that is rarely a valid polynomial.
func randomTerms(r *rand.Rand) api.Poly {
	exponents := []int{0, 0, 0, 1, 1, 2, 3, -1, -2, api.MaxExp + 1, math.MaxInt, math.MaxInt - 1, math.MinInt}
	lengths := []int{0, 1, 1, 2, 2, 3, api.MaxVars + 2}
	p := make(api.Poly, r.Intn(4))
	for i := range p {
		mono := make(api.Mono, lengths[r.Intn(len(lengths))])
		for v := range mono {
			mono[v] = exponents[r.Intn(len(exponents))]
		}
		num := api.Int{Neg: r.Intn(2) == 0, Abs: append(natural.Of(r.Uint64()%4), make(api.Nat, r.Intn(2))...)}
		p[i] = api.Term{Coef: api.Rat{Num: num, Den: natural.Of(r.Uint64() % 3)}, Mono: mono}
	}
	return p
}

// Nothing is promised for arguments that are not valid (R2), but functions return all the same, and what Divide, Exact and Coefs return is valid.
func TestInvalidArguments(t *testing.T) {
	r := newSource()
	variables := []int{-1, 0, 1, 2, api.MaxVars - 1, api.MaxVars, math.MaxInt, math.MinInt}
	for range 5 * rounds {
		p, q, v := randomTerms(r), randomTerms(r), variables[r.Intn(len(variables))]
		pseudo.Main(p)
		pseudo.DegreeIn(p, v)
		pseudo.Initial(p)
		pseudo.Primitive(p)
		quotient, rest, _, _ := pseudo.Divide(p, q, v)
		exact, _ := pseudo.Exact(p, q)
		results := append(pseudo.Coefs(p, v), pseudo.Join([]api.Poly{p, q, p}, v), quotient, rest, exact)
		for _, result := range results {
			if !poly.Right(result) {
				t.Fatalf("%v and %v make %v", p, q, result)
			}
		}
	}
}
