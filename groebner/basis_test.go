package groebner_test

import (
	"slices"
	"testing"

	"geoprover/api"
	"geoprover/groebner"
	"geoprover/monomial"
	"geoprover/poly"
	"geoprover/rational"
)

// expectElements fails unless got is the elements want, with equal representations.
func expectElements(t *testing.T, what string, got, want []api.Element) {
	t.Helper()
	expectAll(t, "the polynomials of "+what, polysOf(got), polysOf(want))
	for i, x := range got {
		expectAll(t, "the cofactors of "+what, x.Cofactors, want[i].Cofactors)
	}
}

// P12.3
func TestBasis(t *testing.T) {
	for _, x := range []struct {
		list      string
		order     int
		polys     string
		cofactors []string
	}{
		{"", api.Lex, "", nil},
		{"0", api.DegLex, "", nil},
		{"0, 0", api.Lex, "", nil},
		{"2*x - 1", api.Lex, "x - 1/2", []string{"1/2"}},
		{"0, -3", api.DegLex, "1", []string{"0, -1/3"}},
		{"x, y", api.Lex, "x, y", []string{"1, 0", "0, 1"}},
		{"x, 2, y", api.Lex, "x, 1, y", []string{"1, 0, 0", "0, 1/2, 0", "0, 0, 1"}},
		{"x, 0, x", api.Lex, "x, x", []string{"1, 0, 0", "0, 0, 1"}},
		{"y - x, y + x", api.Lex, "y - x, y + x, x", []string{"1, 0", "0, 1", "-1/2, 1/2"}},
		{"x, x + 1", api.Lex, "x, x + 1, 1", []string{"1, 0", "0, 1", "-1, 1"}},
		{"x^2 - 1, x - 1", api.Lex, "x^2 - 1, x - 1", []string{"1, 0", "0, 1"}},
		{"x^2 + 2*x, 3*x + 1", api.Lex, "x^2 + 2*x, x + 1/3, 1", []string{"1, 0", "0, 1/3", "-9/5, 3/5*x + 1"}},
		{"y - x^2, x*y - 1", api.Lex, "y - x^2, x*y - 1, x^3 - 1", []string{"1, 0", "0, 1", "-x, 1"}},
		{"x^2 - y, x*y - 1", api.DegLex, "x^2 - y, x*y - 1, y^2 - x", []string{"1, 0", "0, 1", "-y, x"}},
	} {
		var want []api.Element
		for i, p := range readAll(x.polys) {
			want = append(want, api.Element{Poly: p, Cofactors: readAll(x.cofactors[i])})
		}
		got, e := groebner.Basis(readAll(x.list), x.order)
		expectElements(t, "Basis of "+x.list, got, want)
		if e != api.OK {
			t.Errorf("Basis of %s returns %d", x.list, e)
		}
	}
}

// monic returns p and its cofactors, divided by the leading coefficient.
func monic(p api.Poly, cofactors []api.Poly, order int) api.Element {
	t, _ := poly.Lead(p, order)
	factor, _ := rational.Div(rational.Of(1), t.Coef)
	x := api.Element{Poly: poly.Scale(p, factor)}
	for _, c := range cofactors {
		x.Cofactors = append(x.Cofactors, poly.Scale(c, factor))
	}
	return x
}

// based does what Basis does, by the definition.
func based(list []api.Poly, order int) ([]api.Element, api.Errno) {
	if slices.ContainsFunc(list, isLarge) {
		return nil, api.ErrLarge
	}
	var elements []api.Element
	for i, p := range list {
		cofactors := make([]api.Poly, len(list))
		cofactors[i] = read("1")
		if len(p) > 0 {
			elements = append(elements, monic(p, cofactors, order))
		}
	}
	pairs := 0
	for k := 1; k < len(elements); k++ {
		for i := range k {
			p, q := elements[i], elements[k]
			s, t := lead(p.Poly, order), lead(q.Poly, order)
			if monomial.Coprime(s[0].Mono, t[0].Mono) {
				continue
			}
			if pairs++; pairs > api.MaxPairs {
				return nil, api.ErrLarge
			}
			pair := paired(p.Poly, q.Poly, order)
			quotients, rest, e := divided(pair, polysOf(elements), order)
			if e != api.OK {
				return nil, e
			}
			if len(rest) == 0 {
				continue
			}
			lcm := monomial.Lcm(s[0].Mono, t[0].Mono)
			f, _ := monomial.Quo(lcm, s[0].Mono)
			g, _ := monomial.Quo(lcm, t[0].Mono)
			cofactors := make([]api.Poly, len(list))
			for n := range list {
				c := poly.Sub(poly.Mul(poly.Norm([]api.Term{{Coef: rational.Of(1), Mono: f}}), p.Cofactors[n]), poly.Mul(poly.Norm([]api.Term{{Coef: rational.Of(1), Mono: g}}), q.Cofactors[n]))
				for m, x := range elements {
					c = poly.Sub(c, poly.Mul(quotients[m], x.Cofactors[n]))
				}
				if isLarge(c) {
					return nil, api.ErrLarge
				}
				cofactors[n] = c
			}
			elements = append(elements, monic(rest, cofactors, order))
		}
	}
	return elements, api.OK
}

// P12.3: against the computation that it describes.
func TestBasisRandom(t *testing.T) {
	r := newSource()
	longer := 0
	for range rounds {
		list := randomList(r, 1+r.Intn(3))
		for _, order := range orders() {
			want, e := based(list, order)
			got, gotE := groebner.Basis(list, order)
			expectElements(t, "Basis of "+textAll(list), got, want)
			if gotE != e {
				t.Fatalf("Basis of %s returns %d, want %d", textAll(list), gotE, e)
			}
			if len(got) > len(list) {
				longer++
			}
		}
	}
	if longer < rounds/4 {
		t.Errorf("only %d bases are longer than their lists", longer)
	}
}

// P12.3, P12.6: elements are right, their leading coefficients are 1, and each pair of a basis has the rest 0.
func TestBasisLaws(t *testing.T) {
	r := newSource()
	for range rounds {
		list := randomList(r, 1+r.Intn(3))
		for _, order := range orders() {
			elements, e := groebner.Basis(list, order)
			if e != api.OK {
				t.Fatalf("Basis of %s returns %d", textAll(list), e)
			}
			basis := polysOf(elements)
			for k, x := range elements {
				if first, _ := poly.Lead(x.Poly, order); !rational.Equal(first.Coef, rational.Of(1)) || !isRight(x, list) {
					t.Fatalf("Basis of %s has the element %s with the cofactors %s", textAll(list), text(x.Poly), textAll(x.Cofactors))
				}
				for i := range k {
					pair, e := groebner.Pair(basis[i], x.Poly, order)
					if _, rest, e2 := groebner.Divide(pair, basis, order); len(rest) > 0 || e != api.OK || e2 != api.OK {
						t.Fatalf("a pair of the basis %s has the rest %s", textAll(basis), text(rest))
					}
				}
			}
			for _, p := range list {
				if _, rest, e := groebner.Divide(p, basis, order); len(rest) > 0 || e != api.OK {
					t.Fatalf("%s has the rest %s for the basis %s", text(p), text(rest), textAll(basis))
				}
			}
		}
	}
}

// monomials returns a list of n monomials.
func monomials(n int, mono string) []api.Poly { return slices.Repeat(readAll(mono), n) }

// P12.3: at most MaxPairs pairs are examined, without those of coprime elements.
func TestBasisPairs(t *testing.T) {
	added := slices.Concat(readAll("w - y, w + y"), monomials(28, "w"), monomials(10, "y*z")) // the first pair adds y: 435 + 45 + 10 pairs
	for _, x := range []struct {
		list []api.Poly
		want api.Errno
	}{
		{monomials(32, "x"), api.OK},       // 496 pairs
		{monomials(33, "x"), api.ErrLarge}, // 528 pairs
		{slices.Concat(monomials(28, "x"), monomials(4, "x*y"), monomials(1, "y")), api.OK},                               // 500 pairs
		{slices.Concat(monomials(27, "x"), monomials(5, "x*y"), monomials(1, "y")), api.ErrLarge},                         // 501 pairs
		{slices.Concat(monomials(20, "x"), monomials(20, "y"), monomials(15, "z"), monomials(40, "1")), api.OK},           // 485 pairs
		{slices.Concat(monomials(20, "x"), monomials(20, "y"), monomials(16, "z"), monomials(40, "1")), api.OK},           // 500 pairs
		{slices.Concat(monomials(20, "x"), monomials(20, "y"), monomials(16, "z"), monomials(2, "w")), api.ErrLarge},      // 501 pairs
		{slices.Concat(monomials(20, "x"), monomials(20, "y"), monomials(15, "z"), readAll("z - 1")), api.OK},             // 500 pairs, which make 1
		{slices.Concat(monomials(20, "x"), monomials(20, "y"), monomials(15, "z"), readAll("z - 1, w, w")), api.ErrLarge}, // 501 pairs
		{slices.Concat(added, monomials(5, "x")), api.OK},                                                                 // 500 pairs
		{slices.Concat(added, monomials(5, "x"), []api.Poly{poly.Var(9), poly.Var(9)}), api.ErrLarge},                     // 501 pairs
		{slices.Concat(readAll("x, x, 2*x - 2*y + 2"), make([]api.Poly, 600)), api.OK},
	} {
		for _, order := range orders() {
			got, e := groebner.Basis(x.list, order)
			reduced, e2 := groebner.Reduced(x.list, order)
			_, e3 := groebner.Member(read("x"), x.list)
			if e != x.want || e2 != x.want || order == api.DegLex && e3 != x.want {
				t.Errorf("Basis of %s returns %d, Reduced %d, Member %d, want %d", textAll(x.list[:3]), e, e2, e3, x.want)
			}
			if e != api.OK && len(got)+len(reduced) > 0 {
				t.Errorf("Basis returns %s with the error %d", textAll(polysOf(got)), e)
			}
		}
	}
}

// tail returns the list y (1 + x + .. + x^(n-1)) + x, y, whose basis has the element x, with a cofactor of n terms.
func tail(n int) []api.Poly {
	return []api.Poly{sum(product(read("y"), dense(0, n)), read("x")), read("y")}
}

// P12.3: the polynomials, pairs, divisions and cofactors that are not large, and those that are.
func TestBasisLimits(t *testing.T) {
	half, over := dense(0, api.MaxTerms/2), dense(0, api.MaxTerms/2+1)
	high := func(exp int) []api.Poly { // the pair of x, with the cofactor x^exp, and the last polynomial has a cofactor with x^(exp+1)
		return []api.Poly{sum(product(power(0, exp), read("y")), read("x")), read("y"), read("x^2*z + 1")}
	}
	for what, x := range map[string]struct {
		list []api.Poly
		want api.Errno
	}{
		"terms of a polynomial":      {[]api.Poly{dense(0, api.MaxTerms), read("y")}, api.OK},
		"many of a polynomial":       {[]api.Poly{dense(0, api.MaxTerms+1)}, api.ErrLarge},
		"many of the last one":       {[]api.Poly{nil, read("1"), read("y"), dense(0, api.MaxTerms+1)}, api.ErrLarge},
		"terms of a pair":            {[]api.Poly{sum(read("z"), product(half, read("y"))), sum(read("z"), half)}, api.OK},
		"many terms of a pair":       {[]api.Poly{sum(read("z"), product(over, read("y"))), sum(read("z"), over)}, api.ErrLarge},
		"great exponent of a pair":   {[]api.Poly{sum(read("y"), power(0, api.MaxExp)), read("x*y")}, api.ErrLarge},
		"terms of a division":        {[]api.Poly{read("w + z + y^3 + y^2"), read("w"), poly.Sub(read("z"), product(half[1:], read("y + 1"))), read("y")}, api.OK},
		"many terms of a division":   {[]api.Poly{read("w + z + y^4 + y^3 + y^2"), read("w"), poly.Sub(read("z"), product(half[1:], read("y + 1"))), read("y")}, api.ErrLarge},
		"terms of a cofactor":        {append(tail(api.MaxTerms/2), read("x^2*z + x^9 + 1")), api.OK},
		"many terms of a cofactor":   {append(tail(api.MaxTerms/2+1), read("x^2*z + x^9 + 1")), api.ErrLarge},
		"exponents of a cofactor":    {high(api.MaxExp - 1), api.OK},
		"great ones of a cofactor":   {high(api.MaxExp), api.ErrLarge},
		"cofactors of no new rest":   {append(tail(api.MaxTerms/2+1), read("x^2*z + x^9")), api.OK},
		"leading terms of MaxExp":    {[]api.Poly{product(power(0, api.MaxExp), read("y")), product(read("x"), power(1, api.MaxExp))}, api.OK},
		"a large pair of two orders": {[]api.Poly{sum(read("y"), power(0, api.MaxExp)), read("x*y"), read("1")}, api.ErrLarge},
	} {
		elements, e := groebner.Basis(x.list, api.Lex)
		reduced, e2 := groebner.Reduced(x.list, api.Lex)
		if e != x.want || e2 != x.want {
			t.Errorf("Basis (%s) returns %d, Reduced %d, want %d", what, e, e2, x.want)
		}
		if e != api.OK && len(elements)+len(reduced) > 0 {
			t.Errorf("Basis (%s) returns %s with the error %d", what, textAll(polysOf(elements)), e)
		}
		for _, element := range elements {
			if !isRight(element, x.list) {
				t.Errorf("Basis (%s) has a wrong element %s", what, text(element.Poly))
			}
		}
	}
}
