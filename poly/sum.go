package poly

import (
	"geoprover/api"
	"geoprover/monomial"
	"geoprover/rational"
)

// total returns the sum of the n polynomials that part returns. It sums them by halves, so that each term is merged only a few times.
func total(n int, part func(i int) api.Poly) api.Poly {
	var between func(first, end int) api.Poly
	between = func(first, end int) api.Poly {
		switch end - first {
		case 0:
			return nil
		case 1:
			return part(first)
		}
		middle := (first + end) / 2
		return sum(between(first, middle), between(middle, end))
	}
	return between(0, n)
}

// sum returns the sum of p and q, in part in the memory of their terms.
func sum(p, q api.Poly) api.Poly {
	order := func(s, t api.Term) int { return -monomial.Cmp(s.Mono, t.Mono, api.Lex) }
	return merge(p, q, order, func(s, t api.Term) (api.Term, bool) {
		s.Coef = rational.Add(s.Coef, t.Coef)
		return s, rational.Sign(s.Coef) != 0
	})
}

// merge returns the elements of a and b, which ascend in the order, as one list that ascends. In the place of two equal elements stands the one that join makes of them, or none if it returns false.
func merge[S ~[]E, E any](a, b S, order func(x, y E) int, join func(x, y E) (E, bool)) S {
	merged := make(S, 0, len(a)+len(b))
	for len(a) > 0 && len(b) > 0 {
		c := order(a[0], b[0])
		if c < 0 {
			merged = append(merged, a[0])
		} else if c > 0 {
			merged = append(merged, b[0])
		} else if x, ok := join(a[0], b[0]); ok {
			merged = append(merged, x)
		}
		if c <= 0 {
			a = a[1:]
		}
		if c >= 0 {
			b = b[1:]
		}
	}
	merged = append(merged, a...)
	return append(merged, b...)
}
