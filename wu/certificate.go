package wu

import (
	"iter"

	"geoprover/api"
	"geoprover/sums"
	"geoprover/triangular"
)

// certificate returns the certificate that is made of a reduction by the chain whose rest is 0, for so many hypotheses, and true. It returns false if one of its cofactors has too many terms.
func certificate(r api.Reduction, chain []api.Element, hyps int) (api.Certificate, bool) {
	cofactor := func(i int) (api.Poly, bool) {
		sum := sums.Of(nil, nil, nil)
		for q, x := range quotients(r, chain) {
			sum.Add(q, x.Cofactors[i])
		}
		return sum.Within(api.MaxTerms) // it alone is examined, not what it is the sum of
	}
	c := api.Certificate{Factors: triangular.Initials(polysOf(chain)), Powers: r.Powers, Power: 1}
	for i := range hyps {
		p, ok := cofactor(i)
		if !ok {
			return api.Certificate{}, false
		}
		c.Cofactors = append(c.Cofactors, p)
	}
	return c, true
}

// quotients yields the elements of the chain with their quotients in the reduction.
func quotients(r api.Reduction, chain []api.Element) iter.Seq2[api.Poly, api.Element] {
	return func(yield func(q api.Poly, x api.Element) bool) {
		for j, x := range chain {
			if !yield(r.Quotients[j], x) {
				return
			}
		}
	}
}
