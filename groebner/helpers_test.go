package groebner_test

import (
	"math/rand"
	"slices"
	"strings"
	"testing"

	"geoprover/api"
	"geoprover/poly"
	"geoprover/polytext"
	"geoprover/rational"
)

// rounds is the number of pseudo-random cases of a test.
const rounds = 400

// newSource returns a generator with a fixed seed, so that each run tests the same polynomials.
func newSource() *rand.Rand { return rand.New(rand.NewSource(12)) }

// variables returns the names of the first variables in texts.
func variables() []string { return []string{"x", "y", "z", "w"} }

// read returns the polynomial with the text s.
func read(s string) api.Poly {
	p, _, e := polytext.Read(s, variables())
	if e != api.OK {
		panic(s)
	}
	return p
}

// readAll returns the polynomials with the texts in s, between which stand commas.
func readAll(s string) []api.Poly {
	if s == "" {
		return nil
	}
	var l []api.Poly
	for _, text := range strings.Split(s, ", ") {
		l = append(l, read(text))
	}
	return l
}

// text returns the text of p, or its beginning.
func text(p api.Poly) string {
	s, e := polytext.Print(p[:min(len(p), 20)], variables())
	if e != api.OK {
		return "no polynomial in the first variables"
	}
	return s
}

// textAll returns the texts of the polynomials of l.
func textAll(l []api.Poly) string {
	var texts []string
	for _, p := range l {
		texts = append(texts, text(p))
	}
	return strings.Join(texts, ", ")
}

// isSame reports whether the representations are equal.
func isSame(p, q api.Poly) bool {
	return slices.EqualFunc(p, q, func(s, t api.Term) bool {
		return s.Coef.Num.Neg == t.Coef.Num.Neg && slices.Equal(s.Coef.Num.Abs, t.Coef.Num.Abs) && slices.Equal(s.Coef.Den, t.Coef.Den) && slices.Equal(s.Mono, t.Mono)
	})
}

// expectAll fails unless got is the list want of polynomials, with equal representations.
func expectAll(t *testing.T, what string, got, want []api.Poly) {
	t.Helper()
	if !slices.EqualFunc(got, want, isSame) {
		t.Fatalf("%s are %s, want %s", what, textAll(got), textAll(want))
	}
}

// power returns the variable v to the power n.
func power(v, n int) api.Poly {
	mono := make(api.Mono, v+1)
	mono[v] = n
	return poly.Norm([]api.Term{{Coef: rational.Of(1), Mono: mono}})
}

// dense returns the sum of the first n powers of the variable v.
func dense(v, n int) api.Poly {
	var p api.Poly
	for i := n - 1; i >= 0; i-- {
		p = append(p, power(v, i)...)
	}
	return poly.Norm(p)
}

// product returns the product of the polynomials.
func product(polys ...api.Poly) api.Poly {
	p := read("1")
	for _, q := range polys {
		p = poly.Mul(p, q)
	}
	return p
}

// sum returns the sum of the polynomials.
func sum(polys ...api.Poly) api.Poly {
	return poly.Norm(slices.Concat(polys...))
}

// polysOf returns the polynomials of the elements.
func polysOf(elements []api.Element) []api.Poly {
	var l []api.Poly
	for _, x := range elements {
		l = append(l, x.Poly)
	}
	return l
}

// randomPoly returns a polynomial with at most terms terms in the first vars variables, whose exponents are at most exp.
func randomPoly(r *rand.Rand, vars, terms, exp int) api.Poly {
	var l []api.Term
	for range r.Intn(terms + 1) {
		mono := make(api.Mono, vars)
		for v := range mono {
			mono[v] = r.Intn(exp+1) * r.Intn(2)
		}
		l = append(l, api.Term{Coef: randomCoef(r), Mono: mono})
	}
	return poly.Norm(l)
}

// randomCoef returns a number that is often small and often an integer.
func randomCoef(r *rand.Rand) api.Rat {
	switch r.Intn(6) {
	case 0:
		return rational.Frac(r.Int()-r.Int(), 1+r.Int())
	case 1:
		return rational.Frac(r.Intn(13)-6, 1+r.Intn(4))
	}
	return rational.Of(r.Intn(5) - 2)
}

// randomPolys returns a list of n polynomials.
func randomPolys(r *rand.Rand, n, vars, terms, exp int) []api.Poly {
	l := make([]api.Poly, n)
	for i := range l {
		l[i] = randomPoly(r, vars, terms, exp)
	}
	return l
}

// randomList returns a list of polynomials in the first vars variables, some of them multiples of others, or equal, or 0.
func randomList(r *rand.Rand, vars int) []api.Poly {
	var l []api.Poly
	for range r.Intn(5) {
		p := sum(randomPoly(r, vars, 2, 2), product(randomPoly(r, vars, 1, 2), power(r.Intn(vars), 1)))
		if len(l) > 0 {
			switch other := l[r.Intn(len(l))]; r.Intn(10) {
			case 0:
				p = other
			case 1:
				p = poly.Mul(p, other)
			case 2:
				p = poly.Scale(other, randomCoef(r))
			}
		}
		l = append(l, p)
	}
	return l
}

// isRight reports whether the polynomial of x is the sum of the products of its cofactors, which are valid, and list, however large this sum is on the way.
func isRight(x api.Element, list []api.Poly) bool {
	if len(x.Cofactors) != len(list) {
		return false
	}
	var whole api.Poly
	for i, c := range x.Cofactors {
		if !poly.Right(c) {
			return false
		}
		whole = sum(whole, product(c, list[i]))
	}
	return isSame(whole, x.Poly)
}

// orders returns the orders of monomials; every other number counts as Lex.
func orders() []int { return []int{api.Lex, api.DegLex, -1, 2} }

// lead returns the leading monomial of p as a polynomial.
func lead(p api.Poly, order int) api.Poly {
	t, _ := poly.Lead(p, order)
	return api.Poly{{Coef: rational.Of(1), Mono: t.Mono}}
}
