// Package sums takes sums of polynomials and products apart, term by term, from the greatest term on. It is no layer: the layers that divide and that compute within limits use it, since what they do not take is never computed.
package sums

import (
	"container/heap"
	"slices"

	"geoprover/api"
	"geoprover/monomial"
	"geoprover/rational"
)

// Sum is a sum of a polynomial and products from which terms are taken. What is left of it is never written down: its terms are the rest of the polynomial, and the products of terms of left and right, of which a heap has the next one for each term of left.
type Sum struct {
	rest, left, right api.Poly
	products          products
}

// Of returns the sum of p and the product of a and b. It keeps all three of them, but does not write into them. The heap has at most one product for each term of a.
func Of(p, a, b api.Poly) *Sum {
	s := &Sum{rest: p, left: slices.Clip(a), right: b}
	s.begin(0, 0)
	return s
}

// Next removes the greatest term of the sum and returns it and true, or false if nothing is left. The term may share memory with the polynomials.
func (s *Sum) Next() (api.Term, bool) {
	for len(s.rest) > 0 || len(s.products) > 0 {
		t := api.Term{Coef: rational.Of(0), Mono: s.greatest()}
		if len(s.rest) > 0 && slices.Equal(s.rest[0].Mono, t.Mono) {
			t.Coef = s.rest[0].Coef
			s.rest = s.rest[1:]
		}
		for len(s.products) > 0 && slices.Equal(s.products[0].mono, t.Mono) {
			t.Coef = rational.Add(t.Coef, s.take())
		}
		if rational.Sign(t.Coef) != 0 {
			return t, true
		}
	}
	return api.Term{}, false
}

// Reduce subtracts the product of t and b from the sum of p, no terms a, and b, but for its greatest term, which is the one that Next returned last.
func (s *Sum) Reduce(t api.Term) {
	t.Coef = rational.Neg(t.Coef)
	s.left = append(s.left, t)
	s.begin(len(s.left)-1, 1)
}

// begin adds the product of the term number i of left and the term number k of right, if there are such terms, to the heap.
func (s *Sum) begin(i, k int) {
	if i < len(s.left) && k < len(s.right) {
		heap.Push(&s.products, s.product(i, k))
	}
}

// product returns the product of the term number i of left and the term number k of right.
func (s *Sum) product(i, k int) product {
	return product{left: i, right: k, mono: monomial.Mul(s.left[i].Mono, s.right[k].Mono)}
}

// greatest returns the greatest monomial of the rest and the products, of which there is one.
func (s *Sum) greatest() api.Mono {
	if len(s.products) == 0 || len(s.rest) > 0 && monomial.Cmp(s.rest[0].Mono, s.products[0].mono, api.Lex) > 0 {
		return s.rest[0].Mono
	}
	return s.products[0].mono
}

// take returns the coefficient of the first product of the heap, and goes on to the next one of the same term of left. Behind the first product of a term it begins those of the next term, which are less.
func (s *Sum) take() api.Rat {
	x := s.products[0]
	if x.right+1 < len(s.right) {
		s.products[0] = s.product(x.left, x.right+1)
		heap.Fix(&s.products, 0)
	} else {
		heap.Pop(&s.products)
	}
	if x.right == 0 {
		s.begin(x.left+1, 0)
	}
	return rational.Mul(s.left[x.left].Coef, s.right[x.right].Coef)
}

// product is a product of the terms with these numbers.
type product struct {
	left, right int
	mono        api.Mono
}

// products is a heap of products, the one with the greatest monomial first.
type products []product

func (l products) Len() int           { return len(l) }
func (l products) Less(i, k int) bool { return monomial.Cmp(l[i].mono, l[k].mono, api.Lex) > 0 }
func (l products) Swap(i, k int)      { l[i], l[k] = l[k], l[i] }
func (l *products) Push(x any)        { *l = append(*l, x.(product)) }

func (l *products) Pop() any {
	last := (*l)[len(*l)-1]
	*l = (*l)[:len(*l)-1]
	return last
}
