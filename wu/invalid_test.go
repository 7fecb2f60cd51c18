package wu_test

import (
	"math"
	"math/rand"
	"testing"

	"geoprover/api"
	"geoprover/natural"
	"geoprover/wu"
)

// randomTerms returns a list of terms that is rarely a valid polynomial.
func randomTerms(r *rand.Rand) api.Poly {
	exponents := []int{0, 0, 0, 1, 1, 2, 3, -1, -2, api.MaxExp + 1, math.MaxInt, math.MaxInt - 1, math.MinInt}
	lengths := []int{0, 1, 1, 2, 2, 3, api.MaxVars + 2}
	p := make(api.Poly, r.Intn(4))
	for i := range p {
		mono := make(api.Mono, lengths[r.Intn(len(lengths))])
		for v := range mono {
			mono[v] = exponents[r.Intn(len(exponents))]
		}
		num := api.Int{Neg: r.Intn(2) == 0, Abs: append(natural.Of(r.Uint64()%4), make(api.Nat, r.Intn(2))...)}
		p[i] = api.Term{Coef: api.Rat{Num: num, Den: natural.Of(r.Uint64() % 3)}, Mono: mono}
	}
	return p
}

// randomList returns a list of such polynomials, and of others.
func randomList(r *rand.Rand) []api.Poly {
	l := make([]api.Poly, r.Intn(4))
	for i := range l {
		l[i] = randomTerms(r)
		if r.Intn(2) == 0 {
			l[i] = readAll("v0*v1 - 1, v1^2 + v0, v2 - v1, v0*v2 + v1, v2^2 - 3, 0")[r.Intn(6)]
		}
	}
	return l
}

// R1, rule 4 of LANGUAGE.md: problems that are not right give some result, without a panic.
func TestInvalidProblems(t *testing.T) {
	r := newSource()
	proved := 0
	for range 20 * rounds {
		p := made(randomList(r), randomList(r), randomList(r))
		if chain, e := wu.Chain(p); e != api.OK && len(chain) > 0 {
			t.Fatalf("Chain of %v returns %v, %d", p.Hyps, chain, e)
		}
		for goal := -1; goal < 3; goal++ {
			rests, e := wu.Rest(p, goal)
			if e != api.OK && len(rests) > 0 {
				t.Fatalf("Rest of %v returns %v, %d", p, rests, e)
			}
			l, e := wu.Prove(p, goal)
			if e != api.OK && len(l) > 0 {
				t.Fatalf("Prove of %v returns %v, %d", p, l, e)
			}
			if e == api.OK && len(l) > 0 {
				proved++
			}
		}
	}
	if proved < rounds {
		t.Errorf("only %d proofs", proved)
	}
}
