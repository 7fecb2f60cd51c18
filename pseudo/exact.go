package pseudo

import (
	"container/heap"
	"slices"

	"geoprover/api"
	"geoprover/integer"
	"geoprover/monomial"
	"geoprover/natural"
	"geoprover/poly"
	"geoprover/rational"
)

// Exact returns the polynomial whose product with q is p and true, and the zero polynomial and false if there is none, or q is 0.
func Exact(p, q api.Poly) (api.Poly, bool) {
	p, q = poly.Norm(p), poly.Norm(q)
	if len(p) == 0 || len(q) == 0 {
		return nil, len(q) > 0
	}
	p, a := Primitive(p)
	q, b := Primitive(q)
	quotient, ok := primitiveQuotient(p, q)
	if !ok {
		return nil, false
	}
	factor, _ := rational.Div(b, a)
	return poly.Scale(quotient, factor), true
}

// primitiveQuotient does what Exact does for primitive polynomials, whose quotients have integer coefficients by Gauss's lemma. It finds the terms from the greatest one on.
func primitiveQuotient(p, q api.Poly) (api.Poly, bool) {
	room, fits := monomial.Quo(extent(p), extent(q))  // degrees in a variable add up in a product
	_, ends := termQuotient(p[len(p)-1], q[len(q)-1]) // and last terms are multiplied
	if !fits || !ends {
		return nil, false
	}
	d := division{dividend: p, divisor: q}
	for t, ok := d.next(); ok; t, ok = d.next() {
		s, divides := termQuotient(t, q[0])
		if !divides || !monomial.Divides(s.Mono, room) {
			return nil, false
		}
		d.add(s)
	}
	return d.quotient, true
}

// termQuotient returns s / t and true, or false unless that is a term with an integer coefficient.
func termQuotient(s, t api.Term) (api.Term, bool) {
	mono, divides := monomial.Quo(s.Mono, t.Mono)
	num, rest, _ := integer.DivMod(s.Coef.Num, t.Coef.Num)
	return api.Term{Coef: api.Rat{Num: num, Den: natural.Of(1)}, Mono: mono}, divides && integer.Sign(rest) == 0
}

// extent returns the product of the highest powers of the variables in p.
func extent(p api.Poly) api.Mono {
	var powers api.Mono
	for _, t := range p {
		powers = monomial.Lcm(powers, t.Mono)
	}
	return powers
}

// division is an exact division under way. What is left of the dividend is never written down: its terms are those of the dividend from now on, minus those of the products, which are a heap with one product for each term of the quotient.
type division struct {
	dividend, divisor, quotient api.Poly
	products                    products
}

// next removes the greatest term of what is left and returns it and true, or false if nothing is left.
func (d *division) next() (api.Term, bool) {
	for len(d.dividend) > 0 || len(d.products) > 0 {
		t := api.Term{Coef: rational.Of(0), Mono: d.greatest()}
		if len(d.dividend) > 0 && slices.Equal(d.dividend[0].Mono, t.Mono) {
			t.Coef = d.dividend[0].Coef
			d.dividend = d.dividend[1:]
		}
		for len(d.products) > 0 && slices.Equal(d.products[0].mono, t.Mono) {
			t.Coef = rational.Sub(t.Coef, d.take())
		}
		if rational.Sign(t.Coef) != 0 {
			return t, true
		}
	}
	return api.Term{}, false
}

// greatest returns the greatest monomial of the dividend and the products, of which there is one.
func (d *division) greatest() api.Mono {
	if len(d.products) == 0 || len(d.dividend) > 0 && monomial.Cmp(d.dividend[0].Mono, d.products[0].mono, api.Lex) > 0 {
		return d.dividend[0].Mono
	}
	return d.products[0].mono
}

// take returns the coefficient of the first product, and goes on to the product of the same term of the quotient and the next one of the divisor.
func (d *division) take() api.Rat {
	x := &d.products[0]
	s := d.quotient[x.factor]
	coef := rational.Mul(s.Coef, d.divisor[x.by].Coef)
	x.by++
	if x.by == len(d.divisor) {
		heap.Pop(&d.products)
		return coef
	}
	x.mono = monomial.Mul(s.Mono, d.divisor[x.by].Mono)
	heap.Fix(&d.products, 0)
	return coef
}

// add adds t to the quotient; its product with the first term of the divisor was removed already.
func (d *division) add(t api.Term) {
	d.quotient = append(d.quotient, t)
	if len(d.divisor) > 1 {
		heap.Push(&d.products, product{factor: len(d.quotient) - 1, by: 1, mono: monomial.Mul(t.Mono, d.divisor[1].Mono)})
	}
}

// product is the product of two terms, the number factor of the quotient and the number by of the divisor.
type product struct {
	factor, by int
	mono       api.Mono
}

// products is a heap of products, the one with the greatest monomial first.
type products []product

func (l products) Len() int           { return len(l) }
func (l products) Less(i, k int) bool { return monomial.Cmp(l[i].mono, l[k].mono, api.Lex) > 0 }
func (l products) Swap(i, k int)      { l[i], l[k] = l[k], l[i] }
func (l *products) Push(x any)        { *l = append(*l, x.(product)) }

func (l *products) Pop() any {
	last := (*l)[len(*l)-1]
	*l = (*l)[:len(*l)-1]
	return last
}
