package triangular_test

import (
	"math/rand"
	"slices"
	"strings"
	"testing"

	"geoprover/api"
	"geoprover/poly"
	"geoprover/polytext"
	"geoprover/pseudo"
	"geoprover/rational"
)

// rounds is the number of pseudo-random cases of a test.
const rounds = 400

// newSource returns a generator with a fixed seed, so that each run tests the same polynomials.
func newSource() *rand.Rand { return rand.New(rand.NewSource(11)) }

// variables returns the names of the first variables in texts.
func variables() []string { return []string{"x", "y", "z", "w"} }

// read returns the polynomial with the text s.
func read(s string) api.Poly {
	p, _, e := polytext.Read(s, variables())
	if e != api.OK {
		panic(s)
	}
	return p
}

// readAll returns the polynomials with the texts in s, between which stand commas.
func readAll(s string) []api.Poly {
	if s == "" {
		return nil
	}
	var l []api.Poly
	for _, text := range strings.Split(s, ", ") {
		l = append(l, read(text))
	}
	return l
}

// text returns the text of p, or its beginning.
func text(p api.Poly) string {
	s, e := polytext.Print(p[:min(len(p), 20)], variables())
	if e != api.OK {
		return "no polynomial in the first variables"
	}
	return s
}

// textAll returns the texts of the polynomials of l.
func textAll(l []api.Poly) string {
	var texts []string
	for _, p := range l {
		texts = append(texts, text(p))
	}
	return strings.Join(texts, ", ")
}

// isSame reports whether the representations are equal.
func isSame(p, q api.Poly) bool {
	return slices.EqualFunc(p, q, func(s, t api.Term) bool {
		return s.Coef.Num.Neg == t.Coef.Num.Neg && slices.Equal(s.Coef.Num.Abs, t.Coef.Num.Abs) && slices.Equal(s.Coef.Den, t.Coef.Den) && slices.Equal(s.Mono, t.Mono)
	})
}

// expectAll fails unless got is the list want of polynomials, with equal representations.
func expectAll(t *testing.T, what string, got, want []api.Poly) {
	t.Helper()
	if !slices.EqualFunc(got, want, isSame) {
		t.Fatalf("%s are %s, want %s", what, textAll(got), textAll(want))
	}
}

// power returns the variable v to the power n.
func power(v, n int) api.Poly {
	mono := make(api.Mono, v+1)
	mono[v] = n
	return poly.Norm([]api.Term{{Coef: rational.Of(1), Mono: mono}})
}

// dense returns the sum of the first n powers of the variable v.
func dense(v, n int) api.Poly {
	var p api.Poly
	for i := n - 1; i >= 0; i-- {
		p = append(p, power(v, i)...)
	}
	return poly.Norm(p)
}

// curve returns the sum of n monomials in x and y of which no two pairs have the same product, so that its square has n (n + 1) / 2 terms.
func curve(n int) api.Poly {
	var p api.Poly
	for i := range n {
		p = poly.Add(p, product(power(0, i), power(1, i*i)))
	}
	return p
}

// product returns the product of the polynomials.
func product(polys ...api.Poly) api.Poly {
	p := read("1")
	for _, q := range polys {
		p = poly.Mul(p, q)
	}
	return p
}

// sum returns the sum of the polynomials.
func sum(polys ...api.Poly) api.Poly {
	return poly.Norm(slices.Concat(polys...))
}

// raised returns p^n.
func raised(p api.Poly, n int) api.Poly {
	return product(slices.Repeat([]api.Poly{p}, n)...)
}

// polysOf returns the polynomials of the elements.
func polysOf(elements []api.Element) []api.Poly {
	var l []api.Poly
	for _, x := range elements {
		l = append(l, x.Poly)
	}
	return l
}

// randomPoly returns a polynomial with at most terms terms in the first vars variables, whose exponents are at most exp.
func randomPoly(r *rand.Rand, vars, terms, exp int) api.Poly {
	var l []api.Term
	for range r.Intn(terms + 1) {
		mono := make(api.Mono, vars)
		for v := range mono {
			mono[v] = r.Intn(exp+1) * r.Intn(2)
		}
		l = append(l, api.Term{Coef: randomCoef(r), Mono: mono})
	}
	return poly.Norm(l)
}

// randomCoef returns a number that is often small and often an integer.
func randomCoef(r *rand.Rand) api.Rat {
	switch r.Intn(6) {
	case 0:
		return rational.Frac(r.Int()-r.Int(), 1+r.Int())
	case 1:
		return rational.Frac(r.Intn(13)-6, 1+r.Intn(4))
	}
	return rational.Of(r.Intn(5) - 2)
}

// randomList returns a list of polynomials in the first vars variables, some of them multiples of others, or equal, or 0.
func randomList(r *rand.Rand, vars int) []api.Poly {
	var l []api.Poly
	for range r.Intn(5) {
		p := randomPoly(r, vars, 3, 2)
		if len(l) > 0 {
			switch other := l[r.Intn(len(l))]; r.Intn(8) {
			case 0:
				p = other
			case 1:
				p = poly.Mul(p, other)
			case 2:
				p = poly.Scale(other, randomCoef(r))
			}
		}
		l = append(l, p)
	}
	return l
}

// randomChain returns a chain in the first vars variables.
func randomChain(r *rand.Rand, vars int) []api.Poly {
	var chain []api.Poly
	for v := range vars {
		p := poly.Add(randomPoly(r, v+1, 3, 2), poly.Mul(randomPoly(r, v+1, 1, 1), power(v, 1+r.Intn(2))))
		if r.Intn(6) > 0 && pseudo.Main(p) == v {
			chain = append(chain, p)
		}
	}
	return chain
}
