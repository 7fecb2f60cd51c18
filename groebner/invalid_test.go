package groebner_test

import (
	"math"
	"math/rand"
	"slices"
	"testing"

	"geoprover/api"
	"geoprover/groebner"
	"geoprover/natural"
	"geoprover/poly"
)

// randomTerms returns a list of terms that is rarely a valid polynomial.
func randomTerms(r *rand.Rand) api.Poly {
	exponents := []int{0, 0, 0, 1, 1, 2, 3, -1, -2, api.MaxExp + 1, math.MaxInt, math.MaxInt - 1, math.MinInt}
	lengths := []int{0, 1, 1, 2, 2, 3, api.MaxVars + 2}
	p := make(api.Poly, r.Intn(4))
	for i := range p {
		mono := make(api.Mono, lengths[r.Intn(len(lengths))])
		for v := range mono {
			mono[v] = exponents[r.Intn(len(exponents))]
		}
		num := api.Int{Neg: r.Intn(2) == 0, Abs: append(natural.Of(r.Uint64()%4), make(api.Nat, r.Intn(2))...)}
		p[i] = api.Term{Coef: api.Rat{Num: num, Den: natural.Of(r.Uint64() % 3)}, Mono: mono}
	}
	return p
}

// results returns all polynomials that the functions return.
func results(p, q api.Poly, list []api.Poly, order int) []api.Poly {
	all, rest, _ := groebner.Divide(p, list, order)
	pair, _ := groebner.Pair(p, q, order)
	reduced, _ := groebner.Reduced(list, order)
	cofactors, _ := groebner.Member(p, list)
	elements, _ := groebner.Basis(list, order)
	for _, x := range elements {
		all = append(append(all, x.Poly), x.Cofactors...)
	}
	return append(slices.Concat(all, reduced, cofactors), rest, pair)
}

// Nothing is promised for arguments that are not valid (R2), but functions return all the same: what they return for the valid polynomials that poly.Norm makes, unless an argument is large.
func TestInvalidArguments(t *testing.T) {
	r := newSource()
	for range 5 * rounds {
		var list, valid []api.Poly
		for range r.Intn(4) {
			p := randomTerms(r)
			list, valid = append(list, p), append(valid, poly.Norm(p))
		}
		p, q, order := randomTerms(r), randomTerms(r), orders()[r.Intn(4)]
		got, want := results(p, q, list, order), results(poly.Norm(p), poly.Norm(q), valid, order)
		if !slices.ContainsFunc(append(list, p), isLarge) {
			expectAll(t, "the results", got, want)
		}
		if i := slices.IndexFunc(got, func(p api.Poly) bool { return !poly.Right(p) }); i >= 0 {
			t.Fatalf("%v, %v and %v make %v", p, q, list, got[i])
		}
	}
}
