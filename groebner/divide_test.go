package groebner_test

import (
	"math/rand"
	"slices"
	"testing"

	"geoprover/api"
	"geoprover/groebner"
	"geoprover/monomial"
	"geoprover/poly"
	"geoprover/rational"
)

// P12.1
func TestDivide(t *testing.T) {
	for _, x := range []struct {
		p, basis        string
		order           int
		quotients, rest string
	}{
		{"x*y", "y, x", api.Lex, "x, 0", "0"},
		{"x*y", "x, y", api.Lex, "y, 0", "0"},
		{"0", "", api.Lex, "", "0"},
		{"x + 1", "", api.DegLex, "", "x + 1"},
		{"0", "x, 3", api.Lex, "0, 0", "0"},
		{"y + x", "x", api.Lex, "1", "y"},
		{"y + x", "y", api.DegLex, "1", "x"},
		{"y + x", "3", api.Lex, "1/3*y + 1/3*x", "0"},
		{"x^2*y + x*y^2 + y^2", "x*y - 1, y^2 - 1", api.DegLex, "y + x, 1", "y + x + 1"},
		{"x^2*y + x*y^2 + y^2", "y^2 - 1, x*y - 1", api.DegLex, "x + 1, x", "2*x + 1"},
		{"x^2*y + x*y^2 + y^2", "y^2 - 1, x*y - 1", api.Lex, "x + 1, x", "2*x + 1"},
		{"x^2 + y", "x - 1", api.Lex, "x + 1", "y + 1"},
		{"x^2 + y", "2*y - x^2", api.Lex, "1/2", "3/2*x^2"},
		{"x^2 + y", "2*y - x^2", api.DegLex, "-1", "3*y"},
		{"x^2 + y", "2*y - x^2", 7, "1/2", "3/2*x^2"},
		{"z^2 - y^2", "z - y, z + y", api.Lex, "z + y, 0", "0"},
		{"z^2", "z - y, z - y, y", api.Lex, "z + y, 0, y", "0"},
		{"x^3", "x^2 - 1/2*x + 2/3", api.Lex, "x + 1/2", "-5/12*x - 1/3"},
	} {
		quotients, rest, e := groebner.Divide(read(x.p), readAll(x.basis), x.order)
		expectAll(t, "the quotients of "+x.p+" by "+x.basis, quotients, readAll(x.quotients))
		expectAll(t, "the rest of "+x.p+" by "+x.basis, []api.Poly{rest}, []api.Poly{read(x.rest)})
		if e != api.OK {
			t.Errorf("Divide of %s by %s returns %d", x.p, x.basis, e)
		}
	}
}

// isLarge reports whether p is large.
func isLarge(p api.Poly) bool {
	return len(p) > api.MaxTerms || slices.ContainsFunc(p, func(t api.Term) bool {
		return slices.ContainsFunc(t.Mono, func(e int) bool { return e > api.MaxExp })
	})
}

// divided does what Divide does, by the definition.
func divided(p api.Poly, basis []api.Poly, order int) (quotients []api.Poly, rest api.Poly, e api.Errno) {
	if slices.ContainsFunc(basis, func(b api.Poly) bool { return len(b) == 0 }) {
		return nil, nil, api.ErrZero
	}
	quotients = make([]api.Poly, len(basis))
	for !isLarge(p) && !isLarge(rest) && !slices.ContainsFunc(quotients, isLarge) {
		t, ok := poly.Lead(p, order)
		if !ok {
			return quotients, rest, api.OK
		}
		i := slices.IndexFunc(basis, func(b api.Poly) bool {
			s, _ := poly.Lead(b, order)
			return monomial.Divides(s.Mono, t.Mono)
		})
		if i < 0 {
			rest = poly.Add(rest, api.Poly{t})
			p = poly.Sub(p, api.Poly{t})
			continue
		}
		s, _ := poly.Lead(basis[i], order)
		f := api.Term{}
		f.Mono, _ = monomial.Quo(t.Mono, s.Mono)
		f.Coef, _ = rational.Div(t.Coef, s.Coef)
		quotients[i] = poly.Add(quotients[i], api.Poly{f})
		p = poly.Sub(p, poly.Mul(api.Poly{f}, basis[i]))
	}
	return nil, nil, api.ErrLarge
}

// randomBasis returns a list of polynomials other than 0.
func randomBasis(r *rand.Rand, vars int) []api.Poly {
	return slices.DeleteFunc(randomPolys(r, r.Intn(5), vars, 3, 2), func(p api.Poly) bool { return len(p) == 0 })
}

// P12.1: against the definition.
func TestDivideRandom(t *testing.T) {
	r := newSource()
	for range 2 * rounds {
		vars := 1 + r.Intn(4)
		p, basis := randomPoly(r, vars, 6, 3), randomBasis(r, vars)
		for _, order := range orders() {
			quotients, rest, e := divided(p, basis, order)
			got, gotRest, gotE := groebner.Divide(p, basis, order)
			expectAll(t, "the quotients of "+text(p)+" by "+textAll(basis), got, quotients)
			expectAll(t, "the rest of "+text(p)+" by "+textAll(basis), []api.Poly{gotRest}, []api.Poly{rest})
			if gotE != e {
				t.Fatalf("Divide of %s by %s returns %d, want %d", text(p), textAll(basis), gotE, e)
			}
		}
	}
}

// P12.6: the sum of the products and the rest is p, and no monomial of the rest is divisible by a leading monomial.
func TestDivideLaws(t *testing.T) {
	r := newSource()
	for range rounds {
		vars := 1 + r.Intn(4)
		p, basis := randomPoly(r, vars, 6, 3), randomBasis(r, vars)
		for _, order := range orders() {
			quotients, rest, e := groebner.Divide(p, basis, order)
			if e != api.OK || len(quotients) != len(basis) {
				t.Fatalf("Divide of %s by %s returns %s, %d", text(p), textAll(basis), textAll(quotients), e)
			}
			whole := rest
			for i, b := range basis {
				whole = sum(whole, product(quotients[i], b))
				for _, s := range rest {
					if monomial.Divides(lead(b, order)[0].Mono, s.Mono) {
						t.Fatalf("Divide of %s by %s has the rest %s", text(p), textAll(basis), text(rest))
					}
				}
			}
			expectAll(t, "the sum for "+text(p)+" by "+textAll(basis), []api.Poly{whole}, []api.Poly{p})
		}
	}
}

// expectError fails unless Divide returns the error want alone.
func expectError(t *testing.T, what string, p api.Poly, basis []api.Poly, order int, want api.Errno) {
	t.Helper()
	quotients, rest, e := groebner.Divide(p, basis, order)
	if len(quotients) > 0 || len(rest) > 0 || e != want {
		t.Errorf("Divide (%s) returns %s, %s, %d, want the error %d", what, textAll(quotients), text(rest), e, want)
	}
}

// P12.1: the errors in their order.
func TestDivideErrors(t *testing.T) {
	large := dense(0, api.MaxTerms+1)
	for _, order := range orders() {
		expectError(t, "0", read("x"), readAll("0"), order, api.ErrZero)
		expectError(t, "0 by 0", nil, readAll("x, 0, y"), order, api.ErrZero)
		expectError(t, "the last element", read("x"), readAll("1, x, 0"), order, api.ErrZero)
		expectError(t, "0 before large", large, readAll("x, 0"), order, api.ErrZero)
		expectError(t, "p", large, nil, order, api.ErrLarge)
		expectError(t, "p, small quotient", large, []api.Poly{large}, order, api.ErrLarge)
		expectError(t, "p, many terms of the quotient", large, readAll("1"), order, api.ErrLarge)
	}
}

// P12.1: what is not large, and what is large on the way.
func TestDivideLimits(t *testing.T) {
	full, more := dense(0, api.MaxTerms), dense(0, api.MaxTerms+1)
	half, over := dense(0, api.MaxTerms/2), dense(0, api.MaxTerms/2+1)
	great, less := power(0, api.MaxExp), power(0, api.MaxExp-1)
	for what, x := range map[string]struct {
		p     api.Poly
		basis []api.Poly
		order int
		want  api.Errno
	}{
		"terms of p and the rest":       {full, nil, api.Lex, api.OK},
		"terms of p and a quotient":     {full, readAll("1"), api.DegLex, api.OK},
		"terms of an element":           {read("y + x"), []api.Poly{more}, api.Lex, api.OK},
		"terms of an element that go":   {sum(read("y"), more[2:]), []api.Poly{sum(read("y"), more)}, api.Lex, api.OK},
		"terms of a quotient":           {power(0, api.MaxTerms), readAll("x - 1"), api.Lex, api.OK},
		"many of a quotient":            {power(0, api.MaxTerms+1), readAll("x - 1"), api.Lex, api.ErrLarge},
		"terms of two quotients":        {sum(power(0, 3000), product(read("y"), power(0, 3000))), readAll("x*y - y, x - 1"), api.Lex, api.OK},
		"terms of the first difference": {read("y"), []api.Poly{poly.Sub(read("y"), full)}, api.Lex, api.OK},
		"many of the first difference":  {read("y"), []api.Poly{poly.Sub(read("y"), more)}, api.Lex, api.ErrLarge},
		"terms of p on the way":         {read("z"), []api.Poly{poly.Sub(read("z"), product(half, read("y + 1"))), read("y")}, api.Lex, api.OK},
		"many of p on the way":          {read("z"), []api.Poly{poly.Sub(read("z"), product(over, read("y + 1"))), read("y")}, api.Lex, api.ErrLarge},
		"terms of the rest":             {sum(product(half, read("z")), read("y")), []api.Poly{poly.Sub(read("y"), half)}, api.Lex, api.OK},
		"many of the rest":              {sum(product(over, read("z")), read("y")), []api.Poly{poly.Sub(read("y"), over)}, api.Lex, api.ErrLarge},
		"exponent of p":                 {product(less, read("y")), readAll("y - x"), api.Lex, api.OK},
		"great exponent of p":           {product(great, read("y")), readAll("y - x"), api.Lex, api.ErrLarge},
		"great exponent of a last term": {product(less, read("y")), readAll("y - 1 - x^2"), api.Lex, api.ErrLarge},
		"great exponent that would go":  {product(great, read("y")), readAll("y - x, x"), api.Lex, api.ErrLarge},
		"great exponent of y by degree": {product(power(1, api.MaxExp), read("x^2")), readAll("x^2 - y"), api.DegLex, api.ErrLarge},
	} {
		quotients, rest, e := groebner.Divide(x.p, x.basis, x.order)
		if e != x.want || e != api.OK && (len(quotients) > 0 || len(rest) > 0) {
			t.Errorf("Divide (%s) returns %d, want %d", what, e, x.want)
		}
		if e != api.OK {
			continue
		}
		whole := rest
		for i, b := range x.basis {
			whole = sum(whole, product(quotients[i], b))
		}
		if !isSame(whole, x.p) {
			t.Errorf("Divide (%s) has the wrong quotients", what)
		}
	}
}
