package polytext_test

import (
	"math/rand"
	"slices"
	"strconv"
	"strings"
	"testing"

	"geoprover/api"
	"geoprover/poly"
	"geoprover/polytext"
	"geoprover/rational"
)

// rounds is the number of pseudo-random cases of a test.
const rounds = 400

// newSource returns a generator with a fixed seed, so that each run tests the same texts.
func newSource() *rand.Rand { return rand.New(rand.NewSource(7)) }

// number returns the number with the text s.
func number(s string) api.Rat {
	a, e := rational.Read(s)
	if e != api.OK {
		panic(s)
	}
	return a
}

// term returns the polynomial with one term: the coefficient and the exponents.
func term(coef string, exponents ...int) api.Poly {
	return poly.Norm([]api.Term{{Coef: number(coef), Mono: exponents}})
}

// sum returns the sum of the polynomials.
func sum(polys ...api.Poly) api.Poly {
	return poly.Norm(slices.Concat(polys...))
}

// dense returns the sum of the powers of the first variable with the exponents from 0 to n - 1.
func dense(n int) api.Poly {
	var p api.Poly
	for i := range n {
		p = append(p, term("1", n-1-i)...)
	}
	return p
}

// words returns the words of s, which stand between spaces.
func words(s string) []string { return strings.Fields(s) }

// manyNames returns the names v0, v1, .., n of them.
func manyNames(n int) []string {
	var names []string
	for v := range n {
		names = append(names, "v"+strconv.Itoa(v))
	}
	return names
}

// expectText fails unless p has the text want with these names.
func expectText(t *testing.T, p api.Poly, names []string, want string) {
	t.Helper()
	if got, e := polytext.Print(p, names); got != want || e != api.OK {
		t.Errorf("Print(%v, %q) = %q, %d, want %q", p, names, got, e, want)
	}
}

// expectPoly fails unless s is a sum with the value want.
func expectPoly(t *testing.T, s string, names []string, want api.Poly) {
	t.Helper()
	got, at, e := polytext.Read(s, names)
	if !poly.Equal(got, want) || !poly.Right(got) || at != 0 || e != api.OK {
		t.Errorf("Read(%s) = %v, %d, %d, want %v", short(s), got, at, e, want)
	}
}

// expectError fails unless Read of s returns the error e and the offset at.
func expectError(t *testing.T, s string, names []string, at int, e api.Errno) {
	t.Helper()
	p, gotAt, gotE := polytext.Read(s, names)
	if len(p) > 0 || gotAt != at || gotE != e {
		t.Errorf("Read(%s, %q) = %v, %d, %d, want the offset %d and the error %d", short(s), names, p, gotAt, gotE, at, e)
	}
}

// short returns s in quotes, without its middle if it is long.
func short(s string) string {
	if len(s) > 60 {
		s = s[:30] + ".." + s[len(s)-30:]
	}
	return strconv.Quote(s)
}

// randomPoly returns a polynomial with at most terms terms in the first variables, of which there are vars.
func randomPoly(r *rand.Rand, terms, vars int) api.Poly {
	var l []api.Term
	for range r.Intn(terms + 1) {
		mono := make(api.Mono, vars)
		for v := range mono {
			mono[v] = r.Intn(12) * r.Intn(2)
		}
		l = append(l, api.Term{Coef: rational.Frac(r.Intn(41)-20, 1+r.Intn(4)*r.Intn(4)), Mono: mono})
	}
	return poly.Norm(l)
}
