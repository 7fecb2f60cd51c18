package pseudo_test

import (
	"math/rand"
	"slices"
	"strings"
	"testing"

	"geoprover/api"
	"geoprover/poly"
	"geoprover/polytext"
	"geoprover/rational"
)

// rounds is the number of pseudo-random cases of a test.
const rounds = 400

// newSource returns a generator with a fixed seed, so that each run tests the same polynomials.
func newSource() *rand.Rand { return rand.New(rand.NewSource(8)) }

// variables returns the names of the first variables in texts.
func variables() []string { return []string{"x", "y", "z", "w"} }

// read returns the polynomial with the text s.
func read(s string) api.Poly {
	p, _, e := polytext.Read(s, variables())
	if e != api.OK {
		panic(s)
	}
	return p
}

// readAll returns the polynomials with the texts in s, between which stand commas.
func readAll(s string) []api.Poly {
	if s == "" {
		return nil
	}
	var l []api.Poly
	for _, text := range strings.Split(s, ", ") {
		l = append(l, read(text))
	}
	return l
}

// text returns the text of p, or its beginning.
func text(p api.Poly) string {
	s, e := polytext.Print(p[:min(len(p), 20)], variables())
	if e != api.OK {
		return "no polynomial in the first variables"
	}
	return s
}

// expect fails unless got is the polynomial want, and valid.
func expect(t *testing.T, what string, got, want api.Poly) {
	t.Helper()
	if !poly.Equal(got, want) || !poly.Right(got) {
		t.Fatalf("%s is %s, want %s", what, text(got), text(want))
	}
}

// expectAll fails unless got is the list want of polynomials.
func expectAll(t *testing.T, what string, got, want []api.Poly) {
	t.Helper()
	if len(got) != len(want) {
		t.Fatalf("%s are %d polynomials, want %d", what, len(got), len(want))
	}
	for n := range want {
		expect(t, what, got[n], want[n])
	}
}

// power returns the variable v to the power n.
func power(v, n int) api.Poly {
	mono := make(api.Mono, v+1)
	mono[v] = n
	return poly.Norm([]api.Term{{Coef: rational.Of(1), Mono: mono}})
}

// dense returns the sum of the powers of x with the exponents from first to last.
func dense(first, last int) api.Poly {
	var p api.Poly
	for n := last; n >= first; n-- {
		p = append(p, power(0, n)...)
	}
	return p
}

// product returns the product of the polynomials.
func product(polys ...api.Poly) api.Poly {
	p := read("1")
	for _, q := range polys {
		p = poly.Mul(p, q)
	}
	return p
}

// sum returns the sum of the polynomials.
func sum(polys ...api.Poly) api.Poly {
	return poly.Norm(slices.Concat(polys...))
}

// randomPoly returns a polynomial with at most terms terms in the first four variables, whose exponents are at most exp.
func randomPoly(r *rand.Rand, terms, exp int) api.Poly {
	var l []api.Term
	for range r.Intn(terms + 1) {
		mono := make(api.Mono, 4)
		for v := range mono {
			mono[v] = r.Intn(exp+1) * r.Intn(2)
		}
		l = append(l, api.Term{Coef: randomCoef(r), Mono: mono})
	}
	return poly.Norm(l)
}

// randomCoef returns a number that is often small and often an integer.
func randomCoef(r *rand.Rand) api.Rat {
	switch r.Intn(4) {
	case 0:
		return rational.Frac(r.Int()-r.Int(), 1+r.Int())
	case 1:
		return rational.Frac(r.Intn(13)-6, 1+r.Intn(4))
	}
	return rational.Of(r.Intn(5) - 2)
}
