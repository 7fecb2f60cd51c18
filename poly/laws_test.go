package poly_test

import (
	"testing"

	"geoprover/api"
	"geoprover/monomial"
	"geoprover/poly"
	"geoprover/rational"
)

// P6.8: polynomials are a commutative ring.
func TestRing(t *testing.T) {
	r := newSource()
	zero, one := api.Poly(nil), read("1")
	for range rounds {
		p, q, s := randomPoly(r, 8, 3), randomPoly(r, 8, 3), randomPoly(r, 8, 3)
		expect(t, "p + q", poly.Add(p, q), poly.Add(q, p))
		expect(t, "p q", poly.Mul(p, q), poly.Mul(q, p))
		expect(t, "p + (q + s)", poly.Add(p, poly.Add(q, s)), poly.Add(poly.Add(p, q), s))
		expect(t, "p (q s)", poly.Mul(p, poly.Mul(q, s)), poly.Mul(poly.Mul(p, q), s))
		expect(t, "p (q + s)", poly.Mul(p, poly.Add(q, s)), poly.Add(poly.Mul(p, q), poly.Mul(p, s)))
		expect(t, "p + 0", poly.Add(p, zero), p)
		expect(t, "p 1", poly.Mul(p, one), p)
		expect(t, "p - p", poly.Sub(p, p), zero)
		expect(t, "p + -p", poly.Add(p, poly.Neg(p)), zero)
		expect(t, "p - q", poly.Sub(p, q), poly.Add(p, poly.Neg(q)))
		expect(t, "Norm", poly.Norm(p), p)
		cube, e := poly.Pow(p, 3)
		expect(t, "Pow", cube, poly.Mul(p, poly.Mul(p, p)))
		if e != api.OK || poly.Cmp(p, q) != -poly.Cmp(q, p) || poly.Equal(p, q) != same(p, q) {
			t.Fatalf("Pow or Cmp of %v and %v", p, q)
		}
	}
}

// P6.8: the degree of a product is the sum of the degrees, and its leading term the product of the leading terms.
func TestLeadOfProduct(t *testing.T) {
	r := newSource()
	for range rounds {
		p, q := randomPoly(r, 8, 3), randomPoly(r, 8, 3)
		if len(p) == 0 || len(q) == 0 {
			continue
		}
		product := poly.Mul(p, q)
		if poly.Degree(product) != poly.Degree(p)+poly.Degree(q) {
			t.Fatalf("the product of %v and %v has the degree %d", p, q, poly.Degree(product))
		}
		for _, order := range []int{api.Lex, api.DegLex} {
			a, _ := poly.Lead(p, order)
			b, _ := poly.Lead(q, order)
			want := api.Term{Coef: rational.Mul(a.Coef, b.Coef), Mono: monomial.Mul(a.Mono, b.Mono)}
			if got, ok := poly.Lead(product, order); !sameTerm(got, want) || !ok {
				t.Fatalf("order %d: the product of %v and %v has the leading term %v", order, p, q, got)
			}
		}
	}
}

// valueOf returns the value of p.
func valueOf(t *testing.T, p api.Poly, values []api.Rat) api.Rat {
	t.Helper()
	value, e := poly.Eval(p, values)
	if e != api.OK {
		t.Fatalf("Eval(%v): %d", p, e)
	}
	return value
}

// P6.8: Eval is compatible with Add, Mul and Subst.
func TestValues(t *testing.T) {
	r := newSource()
	for range rounds {
		p, q, v := randomPoly(r, 8, 3), randomPoly(r, 4, 2), r.Intn(4)
		values := numbers("2/3 -5 7/4 -1/2")
		a, b := valueOf(t, p, values), valueOf(t, q, values)
		if !sameRat(valueOf(t, poly.Add(p, q), values), rational.Add(a, b)) || !sameRat(valueOf(t, poly.Mul(p, q), values), rational.Mul(a, b)) {
			t.Fatalf("values of the sum or the product of %v and %v", p, q)
		}
		result, e := poly.Subst(p, v, q)
		if e != api.OK {
			t.Fatalf("Subst(%v, %d, %v): %d", p, v, q, e)
		}
		got := valueOf(t, result, values)
		values[v] = b
		if !poly.Right(result) || !sameRat(got, valueOf(t, p, values)) {
			t.Fatalf("Subst(%v, %d, %v) is %v", p, v, q, result)
		}
	}
}
