package ideal_test

import (
	"math/rand"
	"slices"
	"strings"
	"testing"

	"geoprover/api"
	"geoprover/poly"
	"geoprover/polytext"
	"geoprover/rational"
)

// rounds is the number of pseudo-random cases of a test.
const rounds = 400

// newSource returns a generator with a fixed seed, so that each run tests the same polynomials.
func newSource() *rand.Rand { return rand.New(rand.NewSource(10)) }

// variables returns the names of the first variables in texts.
func variables() []string { return []string{"x", "y", "z"} }

// read returns the polynomial with the text s.
func read(s string) api.Poly {
	p, _, e := polytext.Read(s, variables())
	if e != api.OK {
		panic(s)
	}
	return p
}

// readAll returns the polynomials with the texts in s, between which stand commas.
func readAll(s string) []api.Poly {
	if s == "" {
		return nil
	}
	var l []api.Poly
	for _, text := range strings.Split(s, ", ") {
		l = append(l, read(text))
	}
	return l
}

// text returns the text of p, or its beginning.
func text(p api.Poly) string {
	s, e := polytext.Print(p[:min(len(p), 20)], variables())
	if e != api.OK {
		return "no polynomial in the first variables"
	}
	return s
}

// textAll returns the texts of the polynomials of l.
func textAll(l []api.Poly) string {
	var texts []string
	for _, p := range l {
		texts = append(texts, text(p))
	}
	return strings.Join(texts, ", ")
}

// expect fails unless got is the polynomial want, with valid numbers and monomials in the right order, and there is no error.
func expect(t *testing.T, what string, got api.Poly, e api.Errno, want api.Poly) {
	t.Helper()
	if !isSame(got, want) || e != api.OK {
		t.Fatalf("%s is %s, %d, want %s", what, text(got), e, text(want))
	}
}

// isSame reports whether the representations are equal.
func isSame(p, q api.Poly) bool {
	return slices.EqualFunc(p, q, func(s, t api.Term) bool {
		return s.Coef.Num.Neg == t.Coef.Num.Neg && slices.Equal(s.Coef.Num.Abs, t.Coef.Num.Abs) && slices.Equal(s.Coef.Den, t.Coef.Den) && slices.Equal(s.Mono, t.Mono)
	})
}

// power returns the variable v to the power n.
func power(v, n int) api.Poly {
	mono := make(api.Mono, v+1)
	mono[v] = n
	return poly.Norm([]api.Term{{Coef: rational.Of(1), Mono: mono}})
}

// dense returns the sum of the first n powers of the variable v.
func dense(v, n int) api.Poly {
	var p api.Poly
	for i := n - 1; i >= 0; i-- {
		p = append(p, power(v, i)...)
	}
	return p
}

// curve returns the sum of n monomials of which no two pairs have the same product, so that its square has n (n + 1) / 2 terms.
func curve(n int) api.Poly {
	var p api.Poly
	for i := range n {
		p = poly.Add(p, poly.Mul(power(0, i), power(1, i*i)))
	}
	return p
}

// product returns the product of the polynomials.
func product(polys ...api.Poly) api.Poly {
	p := read("1")
	for _, q := range polys {
		p = poly.Mul(p, q)
	}
	return p
}

// raised returns p^n.
func raised(p api.Poly, n int) api.Poly {
	return product(slices.Repeat([]api.Poly{p}, n)...)
}

// leftSide returns the product of the factors of c, and of the goal, with their powers.
func leftSide(c api.Certificate, goal api.Poly) api.Poly {
	left := raised(goal, c.Power)
	for i, f := range c.Factors {
		left = poly.Mul(left, raised(f, c.Powers[i]))
	}
	return left
}

// combination returns the sum of the products of the cofactors and the polynomials of list.
func combination(cofactors, list []api.Poly) api.Poly {
	var sum api.Poly
	for k := range cofactors {
		sum = poly.Add(sum, poly.Mul(cofactors[k], list[k]))
	}
	return sum
}

// randomPoly returns a polynomial with at most terms terms in the first three variables, whose exponents are at most exp.
func randomPoly(r *rand.Rand, terms, exp int) api.Poly {
	var l []api.Term
	for range r.Intn(terms + 1) {
		mono := make(api.Mono, 3)
		for v := range mono {
			mono[v] = r.Intn(exp+1) * r.Intn(2)
		}
		l = append(l, api.Term{Coef: randomCoef(r), Mono: mono})
	}
	return poly.Norm(l)
}

// randomPolys returns a list of n polynomials.
func randomPolys(r *rand.Rand, n, terms, exp int) []api.Poly {
	l := make([]api.Poly, n)
	for i := range l {
		l[i] = randomPoly(r, terms, exp)
	}
	return l
}

// randomCoef returns a number that is often small and often an integer.
func randomCoef(r *rand.Rand) api.Rat {
	switch r.Intn(6) {
	case 0:
		return rational.Frac(r.Int()-r.Int(), 1+r.Int())
	case 1:
		return rational.Frac(r.Intn(13)-6, 1+r.Intn(4))
	}
	return rational.Of(r.Intn(5) - 2)
}

// certificate returns the certificate with these factors and cofactors.
func certificate(factors string, powers []int, power int, cofactors string) api.Certificate {
	return api.Certificate{Factors: readAll(factors), Powers: powers, Power: power, Cofactors: readAll(cofactors)}
}

// isSameCertificate reports whether the representations are equal.
func isSameCertificate(a, b api.Certificate) bool {
	return slices.EqualFunc(a.Factors, b.Factors, isSame) && slices.Equal(a.Powers, b.Powers) && a.Power == b.Power && slices.EqualFunc(a.Cofactors, b.Cofactors, isSame)
}

// isNone reports whether c is the zero value.
func isNone(c api.Certificate) bool {
	return isSameCertificate(c, api.Certificate{})
}

// expectCertificate fails unless got is the certificate want.
func expectCertificate(t *testing.T, what string, got, want api.Certificate) {
	t.Helper()
	if !isSameCertificate(got, want) {
		t.Fatalf("%s is %s, want %s", what, textOf(got), textOf(want))
	}
}

// textOf returns the parts of c as text.
func textOf(c api.Certificate) string {
	powers := ""
	for _, n := range c.Powers {
		powers += " " + rational.Text(rational.Of(n))
	}
	return "(" + textAll(c.Factors) + ";" + powers + "; " + rational.Text(rational.Of(c.Power)) + "; " + textAll(c.Cofactors) + ")"
}

// theorem is a certificate with what it is about.
type theorem struct {
	c    api.Certificate
	hyps []api.Poly
	goal api.Poly
}

// randomTheorem returns a theorem whose certificate is right. Some factors are constants, and often some of them can be cancelled.
func randomTheorem(r *rand.Rand) theorem {
	t := theorem{goal: randomPoly(r, 2, 2)}
	t.c.Power = 1 + r.Intn(2)
	for range r.Intn(4) {
		f := randomPoly(r, 3, 1)
		if r.Intn(4) == 0 {
			f = randomPoly(r, 2, 0)
		}
		if len(f) > 0 {
			t.c.Factors, t.c.Powers = append(t.c.Factors, f), append(t.c.Powers, r.Intn(3))
		}
	}
	t.hyps = randomPolys(r, r.Intn(3), 3, 2)
	t.c.Cofactors = randomPolys(r, len(t.hyps), 2, 2)
	last := poly.Sub(leftSide(t.c, t.goal), combination(t.c.Cofactors, t.hyps))
	t.hyps, t.c.Cofactors = append(t.hyps, last), append(t.c.Cofactors, read("1"))
	for i, f := range t.c.Factors {
		for range r.Intn(3) {
			t.c.Powers[i]++
			t.c.Cofactors = multiples(t.c.Cofactors, f)
		}
	}
	return t
}

// multiples returns the products of the polynomials of l and f.
func multiples(l []api.Poly, f api.Poly) []api.Poly {
	products := make([]api.Poly, len(l))
	for k, p := range l {
		products[k] = poly.Mul(p, f)
	}
	return products
}
