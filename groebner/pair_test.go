package groebner_test

import (
	"testing"

	"geoprover/api"
	"geoprover/groebner"
	"geoprover/monomial"
	"geoprover/poly"
	"geoprover/rational"
)

// P12.2
func TestPair(t *testing.T) {
	for _, x := range []struct {
		p, q  string
		order int
		want  string
	}{
		{"y - x", "y + x", api.Lex, "-2*x"},
		{"y + x", "y - x", api.Lex, "2*x"},
		{"x", "x", api.Lex, "0"},
		{"2*x", "-3*x", api.DegLex, "0"},
		{"3", "-1/2", api.Lex, "0"},
		{"x + 1", "5", api.Lex, "1"},
		{"5", "x + 1", api.Lex, "-1"},
		{"2*y + x", "3*y - 1", api.Lex, "1/2*x + 1/3"},
		{"x^2*y - 1", "x*y^2 - x", api.Lex, "x^2 - y"},
		{"x^2*y - 1", "x*y^2 - x", api.DegLex, "x^2 - y"},
		{"y - x^2", "y*x - 1", api.Lex, "1 - x^3"},
		{"y - x^2", "y*x - 1", api.DegLex, "-y^2 + x"},
		{"y - x^2", "y*x - 1", 3, "1 - x^3"},
		{"y - x", "x - 1", api.Lex, "y - x^2"},
		{"z*x + y", "z*y + x", api.Lex, "y^2 - x^2"},
		{"1/2*z*x^2 + z", "2/3*y*x - 5", api.Lex, "2*z*y + 15/2*z*x"},
	} {
		got, e := groebner.Pair(read(x.p), read(x.q), x.order)
		expectAll(t, "Pair of "+x.p+" and "+x.q, []api.Poly{got}, []api.Poly{read(x.want)})
		if e != api.OK {
			t.Errorf("Pair of %s and %s returns %d", x.p, x.q, e)
		}
	}
}

// paired does what Pair does, by the definition.
func paired(p, q api.Poly, order int) api.Poly {
	s, _ := poly.Lead(p, order)
	t, _ := poly.Lead(q, order)
	lcm := monomial.Lcm(s.Mono, t.Mono)
	multiple := func(p api.Poly, t api.Term) api.Poly {
		mono, _ := monomial.Quo(lcm, t.Mono)
		coef, _ := rational.Div(rational.Of(1), t.Coef)
		return poly.Mul(api.Poly{{Coef: coef, Mono: mono}}, p)
	}
	return poly.Sub(multiple(p, s), multiple(q, t))
}

// P12.2: against the definition.
func TestPairRandom(t *testing.T) {
	r := newSource()
	for range 2 * rounds {
		vars := 1 + r.Intn(4)
		p, q := randomPoly(r, vars, 4, 3), randomPoly(r, vars, 4, 3)
		if len(p) == 0 || len(q) == 0 {
			continue
		}
		for _, order := range orders() {
			got, e := groebner.Pair(p, q, order)
			expectAll(t, "Pair of "+text(p)+" and "+text(q), []api.Poly{got}, []api.Poly{paired(p, q, order)})
			if e != api.OK {
				t.Fatalf("Pair of %s and %s returns %d", text(p), text(q), e)
			}
		}
	}
}

// P12.2: the errors in their order, and what is not large.
func TestPairErrors(t *testing.T) {
	half, over := dense(0, api.MaxTerms/2), dense(0, api.MaxTerms/2+1)
	more := dense(0, api.MaxTerms+1)
	great := power(0, api.MaxExp)
	for what, x := range map[string]struct {
		p, q api.Poly
		want api.Errno
	}{
		"0 and p":              {nil, read("x"), api.ErrZero},
		"p and 0":              {read("x"), nil, api.ErrZero},
		"0 and 0":              {nil, nil, api.ErrZero},
		"0 and large":          {nil, more, api.ErrZero},
		"large and 0":          {more, nil, api.ErrZero},
		"terms":                {sum(read("z"), product(half, read("y"))), sum(read("z"), half), api.OK},
		"many terms":           {sum(read("z"), product(over, read("y"))), sum(read("z"), over), api.ErrLarge},
		"terms of p":           {more, read("y"), api.OK},
		"many terms of p":      {dense(0, api.MaxTerms+2), read("y"), api.ErrLarge},
		"many terms that go":   {sum(read("y"), more), sum(read("y"), more[1:]), api.OK},
		"exponents":            {sum(read("y"), power(0, api.MaxExp-1)), read("x*y"), api.OK},
		"great exponents":      {sum(read("y"), great), read("x*y"), api.ErrLarge},
		"great exponents of q": {read("x*y"), sum(read("y"), great), api.ErrLarge},
		"great leading terms":  {product(great, read("z")), product(read("x*z"), power(1, api.MaxExp)), api.OK},
	} {
		got, e := groebner.Pair(x.p, x.q, api.Lex)
		if e != x.want || e != api.OK && len(got) > 0 {
			t.Errorf("Pair (%s) returns %s, %d, want the error %d", what, text(got), e, x.want)
		}
		if e == api.OK && !isSame(got, paired(x.p, x.q, api.Lex)) {
			t.Errorf("Pair (%s) returns %s", what, text(got))
		}
	}
}
