// Package sums takes sums of polynomials and products apart, term by term, from the greatest term on. It is no layer: the layers that divide and that compute within limits use it, since what they do not take is never computed.
package sums

import (
	"container/heap"
	"slices"

	"geoprover/api"
	"geoprover/monomial"
	"geoprover/rational"
)

// Sum is a sum of a polynomial and products from which terms are taken. What is left of it is never written down: its terms are the rest of the polynomial, and the products of terms of the factors, of which a heap has the next one for each term of a left factor.
type Sum struct {
	rest     api.Poly
	factors  []factors
	products products
}

// factors are two polynomials whose product belongs to a sum.
type factors struct{ left, right api.Poly }

// Of returns the sum of p and the product of a and b. It keeps all three of them, but does not write into them.
func Of(p, a, b api.Poly) *Sum {
	s := &Sum{rest: p}
	s.Add(a, b)
	return s
}

// Add adds the product of a and b to a sum from which no term was taken. It keeps both of them, but does not write into them. The shorter one of different lengths is the left factor, so that few products are in the heap at a time.
func (s *Sum) Add(a, b api.Poly) {
	if len(a) > len(b) {
		a, b = b, a
	}
	s.factors = append(s.factors, factors{left: slices.Clip(a), right: b})
	s.begin(len(s.factors)-1, 0, 0)
}

// Next removes the greatest term of the sum and returns it and true, or false if nothing is left. The term may share memory with the polynomial of Of, but not with factors.
func (s *Sum) Next() (api.Term, bool) {
	for len(s.rest) > 0 || len(s.products) > 0 {
		t := api.Term{Coef: rational.Of(0), Mono: s.greatest()}
		if len(s.rest) > 0 && slices.Equal(s.rest[0].Mono, t.Mono) {
			t.Coef = s.rest[0].Coef
			s.rest = s.rest[1:]
		}
		for len(s.products) > 0 && slices.Equal(s.products[0].mono, t.Mono) {
			x := s.take()
			if rational.Sign(t.Coef) != 0 {
				x = rational.Add(t.Coef, x)
			}
			t.Coef = x
		}
		if rational.Sign(t.Coef) != 0 {
			return t, true
		}
	}
	return api.Term{}, false
}

// Within returns the terms that are left and true, or nothing and false if they are more than limit. Where there are too many, most of them are never computed.
func (s *Sum) Within(limit int) (api.Poly, bool) {
	var terms api.Poly
	for t, ok := s.Next(); ok; t, ok = s.Next() {
		if len(terms) == limit {
			return nil, false
		}
		terms = append(terms, t)
	}
	return terms, true
}

// Small returns the terms that are left and true, or nothing and false if they are a large polynomial.
func (s *Sum) Small() (api.Poly, bool) {
	p, ok := s.Within(api.MaxTerms)
	if !ok || Large(p) {
		return nil, false
	}
	return p, true
}

// Large reports whether p has more than MaxTerms terms, or an exponent greater than MaxExp.
func Large(p api.Poly) bool {
	return len(p) > api.MaxTerms || slices.ContainsFunc(p, func(t api.Term) bool {
		return len(t.Mono) > 0 && slices.Max(t.Mono) > api.MaxExp
	})
}

// Reduce subtracts the product of t and b from the sum of p, no terms a, and b, but for its greatest term, which is the one that Next returned last.
func (s *Sum) Reduce(t api.Term) {
	t.Coef = rational.Neg(t.Coef)
	s.factors[0].left = append(s.factors[0].left, t)
	s.begin(0, len(s.factors[0].left)-1, 1)
}

// begin adds the product of the term number i of the left factor and the term number k of the right one, of the factors number n, to the heap, if there are such terms.
func (s *Sum) begin(n, i, k int) {
	if i < len(s.factors[n].left) && k < len(s.factors[n].right) {
		heap.Push(&s.products, s.product(n, i, k))
	}
}

// product returns the product of the term number i of the left factor and the term number k of the right one, of the factors number n.
func (s *Sum) product(n, i, k int) product {
	f := s.factors[n]
	return product{factors: n, left: i, right: k, mono: monomial.Mul(f.left[i].Mono, f.right[k].Mono)}
}

// greatest returns the greatest monomial of the rest and the products, of which there is one.
func (s *Sum) greatest() api.Mono {
	if len(s.products) == 0 || len(s.rest) > 0 && monomial.Cmp(s.rest[0].Mono, s.products[0].mono, api.Lex) > 0 {
		return s.rest[0].Mono
	}
	return s.products[0].mono
}

// take returns the coefficient of the first product of the heap, and goes on to the next one of the same term of the left factor. Behind the first product of a term it begins those of the next term, which are less.
func (s *Sum) take() api.Rat {
	x := s.products[0]
	f := s.factors[x.factors]
	if x.right+1 < len(f.right) {
		s.products[0] = s.product(x.factors, x.left, x.right+1)
		heap.Fix(&s.products, 0)
	} else {
		heap.Pop(&s.products)
	}
	if x.right == 0 {
		s.begin(x.factors, x.left+1, 0)
	}
	return rational.Mul(f.left[x.left].Coef, f.right[x.right].Coef)
}

// product is a product of the terms with these numbers, of the factors with this number.
type product struct {
	factors, left, right int
	mono                 api.Mono
}

// products is a heap of products, the one with the greatest monomial first.
type products []product

func (l products) Len() int           { return len(l) }
func (l products) Less(i, k int) bool { return monomial.Cmp(l[i].mono, l[k].mono, api.Lex) > 0 }
func (l products) Swap(i, k int)      { l[i], l[k] = l[k], l[i] }
func (l *products) Push(x any)        { *l = append(*l, x.(product)) }

func (l *products) Pop() any {
	last := (*l)[len(*l)-1]
	*l = (*l)[:len(*l)-1]
	return last
}
