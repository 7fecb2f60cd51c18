package groebner_test

import (
	"slices"
	"testing"

	"geoprover/api"
	"geoprover/groebner"
	"geoprover/monomial"
	"geoprover/poly"
	"geoprover/rational"
)

// P12.4
func TestReduced(t *testing.T) {
	for _, x := range []struct {
		list  string
		order int
		want  string
	}{
		{"", api.Lex, ""},
		{"0, 0", api.DegLex, ""},
		{"5", api.Lex, "1"},
		{"y - x, y + x", api.Lex, "x, y"},
		{"x^2 - 1, x - 1", api.Lex, "x - 1"},
		{"2*y, 3*x", api.Lex, "x, y"},
		{"x, 2*x, -x", api.DegLex, "x"},
		{"x, x + 1", api.Lex, "1"},
		{"y - x^2, x*y - 1", api.Lex, "x^3 - 1, y - x^2"},
		{"y - x^2, x*y - 1", api.DegLex, "x^2 - y, x*y - 1, y^2 - x"},
		{"y + x, x - 1", api.Lex, "x - 1, y + 1"},
		{"z + y + x, y + x, x + 1", api.DegLex, "x + 1, y - 1, z"},
		{"z + y + x, y + x, x + 1", -5, "x + 1, y - 1, z"},
		{"x^2 + x*y, y^2 + x*y, 1/2*x + 1/3*y", api.Lex, "x^2, y + 3/2*x"},
		{"x^2*y - 1, x*y^2 - x", api.Lex, "x^4 - 1, y - x^2"},
		{"x^2*y - 1, x*y^2 - x", api.DegLex, "x^2 - y, y^2 - 1"},
		{"x + y + z, x*y + y*z + z*x, x*y*z - 1", api.Lex, "x^3 - 1, y^2 + x*y + x^2, z + y + x"},
	} {
		got, e := groebner.Reduced(readAll(x.list), x.order)
		expectAll(t, "Reduced of "+x.list, got, readAll(x.want))
		if e != api.OK {
			t.Errorf("Reduced of %s returns %d", x.list, e)
		}
	}
}

// isReduced reports whether the leading coefficients of the basis are 1, its leading monomials ascend, and none of them divides a monomial of another element.
func isReduced(basis []api.Poly, order int) bool {
	for i, p := range basis {
		first, ok := poly.Lead(p, order)
		if !ok || !rational.Equal(first.Coef, rational.Of(1)) {
			return false
		}
		if i > 0 && monomial.Cmp(lead(basis[i-1], order)[0].Mono, first.Mono, order) >= 0 {
			return false
		}
		for k, q := range basis {
			if i != k && slices.ContainsFunc(q, func(t api.Term) bool { return monomial.Divides(first.Mono, t.Mono) }) {
				return false
			}
		}
	}
	return true
}

// P12.4, P12.6: Reduced returns a reduced Groebner basis of the ideal, which does not depend on the order of the list.
func TestReducedLaws(t *testing.T) {
	r := newSource()
	ones := 0
	for range rounds {
		list := randomList(r, 1+r.Intn(3))
		for _, order := range orders() {
			got, e := groebner.Reduced(list, order)
			if e != api.OK || !isReduced(got, order) {
				t.Fatalf("Reduced of %s returns %s, %d", textAll(list), textAll(got), e)
			}
			elements, e := groebner.Basis(got, order)
			if e != api.OK || len(elements) != len(got) {
				t.Fatalf("Reduced of %s returns %s, whose pairs have rests", textAll(list), textAll(got))
			}
			for _, p := range list {
				if _, rest, e := groebner.Divide(p, got, order); len(rest) > 0 || e != api.OK {
					t.Fatalf("%s is not in the ideal of %s", text(p), textAll(got))
				}
			}
			for _, p := range got {
				if _, e := groebner.Member(p, list); e != api.OK {
					t.Fatalf("%s is not in the ideal of %s", text(p), textAll(list))
				}
			}
			again, e := groebner.Reduced(got, order)
			expectAll(t, "Reduced of Reduced of "+textAll(list), again, got)
			other := slices.Clone(list)
			r.Shuffle(len(other), func(i, k int) { other[i], other[k] = other[k], other[i] })
			shuffled, e2 := groebner.Reduced(other, order)
			expectAll(t, "Reduced of "+textAll(other), shuffled, got)
			if e != api.OK || e2 != api.OK {
				t.Fatalf("Reduced of %s returns %d, %d", textAll(got), e, e2)
			}
			_, e = groebner.Member(read("1"), list)
			if hasOne := len(got) == 1 && poly.Degree(got[0]) == 0; hasOne != (e == api.OK) {
				t.Fatalf("Reduced of %s returns %s, but Member of 1 %d", textAll(list), textAll(got), e)
			} else if hasOne {
				ones++
			}
		}
	}
	if ones < rounds/4 || ones > 3*rounds {
		t.Errorf("%d ideals contain 1", ones)
	}
}

// P12.4: the error of Divide.
func TestReducedLimits(t *testing.T) {
	for n, want := range map[int]api.Errno{api.MaxTerms/2 - 1: api.OK, api.MaxTerms / 2: api.ErrLarge} {
		d := dense(0, n)
		list := []api.Poly{read("w - y*z - z"), poly.Sub(read("z"), d)}
		if _, e := groebner.Basis(list, api.Lex); e != api.OK {
			t.Errorf("Basis with %d terms returns %d", n, e)
		}
		got, e := groebner.Reduced(list, api.Lex)
		if e != want {
			t.Errorf("Reduced with %d terms returns %d, want %d", n, e, want)
		}
		if e == api.OK {
			expectAll(t, "Reduced", got, []api.Poly{list[1], poly.Sub(read("w"), product(d, read("y + 1")))})
		} else if len(got) > 0 {
			t.Errorf("Reduced with %d terms returns %s with an error", n, textAll(got))
		}
	}
}

// P12.4: of equal leading monomials the first one remains. It is divided without an error here, while w + y z + z + 1 becomes large.
func TestReducedEqual(t *testing.T) {
	d := product(read("x"), dense(0, api.MaxTerms/2))
	list := []api.Poly{read("w + 1"), read("w + y*z + z + 1"), read("y*z + z"), poly.Sub(read("z"), d)}
	got, e := groebner.Reduced(list, api.Lex)
	expectAll(t, "Reduced", got, []api.Poly{product(d, read("y + 1")), poly.Sub(read("z"), d), read("w + 1")})
	if e != api.OK {
		t.Errorf("Reduced returns %d", e)
	}
	list[0], list[1] = list[1], list[0]
	if got, e := groebner.Reduced(list, api.Lex); len(got) > 0 || e != api.ErrLarge {
		t.Errorf("Reduced returns %s, %d", textAll(got), e)
	}
}

// P12.5
func TestMember(t *testing.T) {
	for _, x := range []struct {
		p, list, cofactors string
		want               api.Errno
	}{
		{"x^2 - y^2", "x - y", "x + y", api.OK},
		{"1", "x, x + 1", "-1, 1", api.OK},
		{"0", "", "", api.OK},
		{"0", "x, 0, y", "0, 0, 0", api.OK},
		{"x", "0, 2*x", "0, 1/2", api.OK},
		{"3*x", "-2", "-3/2*x", api.OK},
		{"y^2 - x", "x^2 - y, x*y - 1", "-y, x", api.OK},
		{"x", "", "", api.ErrNone},
		{"1", "0", "", api.ErrNone},
		{"1", "x, y", "", api.ErrNone},
		{"x", "x^2", "", api.ErrNone},
		{"x*y - 1", "y^2 - x, x^2 - y", "", api.ErrNone},
		{"x + y", "x^2, y^2, x*y", "", api.ErrNone},
	} {
		got, e := groebner.Member(read(x.p), readAll(x.list))
		expectAll(t, "Member of "+x.p+" for "+x.list, got, readAll(x.cofactors))
		if e != x.want {
			t.Errorf("Member of %s for %s returns %d, want %d", x.p, x.list, e, x.want)
		}
	}
}

// P12.5: combinations are members, and what is not divisible by the reduced basis is none.
func TestMemberRandom(t *testing.T) {
	r := newSource()
	members, others := 0, 0
	for range 2 * rounds {
		list := randomList(r, 1+r.Intn(3))
		var p api.Poly
		for _, q := range list {
			p = sum(p, product(q, randomPoly(r, 3, 2, 2)))
		}
		if r.Intn(3) == 0 {
			p = sum(p, randomPoly(r, 3, 1, 1))
		}
		basis, _ := groebner.Reduced(list, api.DegLex)
		_, rest, _ := groebner.Divide(p, basis, api.DegLex)
		cofactors, e := groebner.Member(p, list)
		if len(rest) > 0 {
			others++
			if e != api.ErrNone || len(cofactors) > 0 {
				t.Fatalf("Member of %s for %s returns %s, %d", text(p), textAll(list), textAll(cofactors), e)
			}
			continue
		}
		members++
		if e != api.OK || !isRight(api.Element{Poly: p, Cofactors: cofactors}, list) {
			t.Fatalf("Member of %s for %s returns %s, %d", text(p), textAll(list), textAll(cofactors), e)
		}
	}
	if members < rounds || others < rounds/10 {
		t.Errorf("%d members, and %d others", members, others)
	}
}

// P12.5: the errors in their order, and what is large.
func TestMemberErrors(t *testing.T) {
	large := dense(0, api.MaxTerms+1)
	in := read("x*z + x^3") // with the cofactors z + x^2 and its product with n terms
	for what, x := range map[string]struct {
		p    api.Poly
		list []api.Poly
		want api.Errno
	}{
		"list":                 {read("x"), []api.Poly{large}, api.ErrLarge},
		"list, p outside":      {read("y"), []api.Poly{large}, api.ErrLarge},
		"pairs, p outside":     {read("y"), monomials(33, "x"), api.ErrLarge},
		"p":                    {dense(0, api.MaxTerms+2), readAll("x + 1"), api.ErrLarge}, // with half as many terms in the quotient
		"p, nothing in list":   {large, nil, api.ErrLarge},
		"p outside":            {large, readAll("y"), api.ErrLarge},
		"quotient":             {power(0, api.MaxTerms+1), readAll("x - 1"), api.ErrLarge},
		"quotient, outside":    {poly.Sub(power(0, api.MaxTerms+1), read("2")), readAll("x - 1"), api.ErrLarge},
		"terms of a quotient":  {poly.Sub(power(0, api.MaxTerms), read("1")), readAll("x - 1"), api.OK},
		"terms of a cofactor":  {in, tail(api.MaxTerms / 2), api.OK},
		"many of a cofactor":   {in, tail(api.MaxTerms/2 + 1), api.ErrLarge},
		"many, p outside":      {sum(in, read("1")), tail(api.MaxTerms/2 + 1), api.ErrNone},
		"exponents":            {power(0, 3), []api.Poly{sum(product(power(0, api.MaxExp-2), read("y")), read("x")), read("y")}, api.OK},
		"too great exponents":  {power(0, 3), []api.Poly{sum(product(power(0, api.MaxExp-1), read("y")), read("x")), read("y")}, api.ErrLarge},
		"great, but p outside": {sum(power(0, 3), read("1")), []api.Poly{sum(product(power(0, api.MaxExp-1), read("y")), read("x")), read("y")}, api.ErrNone},
	} {
		got, e := groebner.Member(x.p, x.list)
		if e != x.want || e != api.OK && len(got) > 0 {
			t.Errorf("Member (%s) returns %s, %d, want the error %d", what, textAll(got), e, x.want)
		}
		if e == api.OK && !isRight(api.Element{Poly: x.p, Cofactors: got}, x.list) {
			t.Errorf("Member (%s) returns %s", what, textAll(got))
		}
	}
}
