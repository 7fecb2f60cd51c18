package pseudo_test

import (
	"testing"

	"geoprover/api"
	"geoprover/monomial"
	"geoprover/poly"
	"geoprover/pseudo"
	"geoprover/rational"
)

// P8.4
func TestExact(t *testing.T) {
	for _, x := range []struct{ p, q, want string }{
		{"x^2 - y^2", "x - y", "x + y"},
		{"0", "x - y", "0"},
		{"0", "5", "0"},
		{"3*x - 1", "-2", "-3/2*x + 1/2"},
		{"x", "x", "1"},
		{"-2*x^5*y^3*z", "1/3*x^2*z", "-6*x^3*y^3"},
		{"x^6 - 1", "x^2 + x + 1", "x^4 - x^3 + x - 1"},
		{"z*x + z*y + x + y", "z + 1", "x + y"},
		{"z*x + z*y + x + y", "x + y", "z + 1"},
		{"x^3 + y^3 + z^3 - 3*x*y*z", "x + y + z", "x^2 + y^2 + z^2 - x*y - x*z - y*z"},
		{"x^4 + 4*y^4", "x^2 + 2*x*y + 2*y^2", "x^2 - 2*x*y + 2*y^2"},
	} {
		got, ok := pseudo.Exact(read(x.p), read(x.q))
		expect(t, "the quotient of "+x.p+" and "+x.q, got, read(x.want))
		if !ok {
			t.Errorf("there is no quotient of %s and %s", x.p, x.q)
		}
	}
}

// P8.4: quotients that do not exist.
func TestExactNone(t *testing.T) {
	for _, x := range []struct{ p, q string }{
		{"x", "0"},
		{"0", "0"},
		{"x", "y"},
		{"y", "x"},
		{"1", "x"},
		{"x", "x^2"},
		{"x + 1", "x"},
		{"x*y + x + 1", "x"},
		{"x^2 + 1", "x + 1"},
		{"x^2 + y^2", "x + y"},
		{"x^2*y + x", "x*y"},
		{"y", "y - x"},
		{"y^2 - x", "y - x"},
		{"y^2*x", "2*y + x"},
		{"x^2*y^2 - 2", "x*y - 1"},
		{"z^3 + y^3 + x^3 + 1", "z + y + x + 1"},
		{"z^2*y^2*x^2 + z*y + x + 5", "z*y*x - 1"},
	} {
		if got, ok := pseudo.Exact(read(x.p), read(x.q)); len(got) > 0 || ok {
			t.Errorf("the quotient of %s and %s is %s, %v", x.p, x.q, text(got), ok)
		}
	}
	for v := range 3 { // no other variable is needed to see that a monomial has no such divisor
		if _, ok := pseudo.Exact(power(v, api.MaxExp), read("x + y + z + 1")); ok {
			t.Errorf("a power of the variable %d has a divisor", v)
		}
	}
}

// P8.4: great exponents and many terms.
func TestExactLarge(t *testing.T) {
	const n = 1 << 16
	got, ok := pseudo.Exact(poly.Sub(power(0, n), read("1")), read("x - 1"))
	expect(t, "the quotient", got, dense(0, n-1))
	if !ok {
		t.Errorf("there is no quotient")
	}
	great := sum(product(power(0, api.MaxExp), power(1, api.MaxExp)), power(2, api.MaxExp))
	if got, ok = pseudo.Exact(product(great, great), great); ok {
		t.Errorf("a product that is not valid has the quotient %s", text(got))
	}
	less := power(0, api.MaxExp-3)
	p := product(less, read("x*y - 2*z + 3"))
	got, ok = pseudo.Exact(product(p, read("x^2 - y")), product(less, read("x^2 - y")))
	expect(t, "the quotient", got, read("x*y - 2*z + 3"))
	if !ok {
		t.Errorf("there is no quotient")
	}
}

// divides reports whether q, which is not 0, divides p: division by its leading term leaves no rest.
func divides(p, q api.Poly) bool {
	for len(p) > 0 {
		mono, ok := monomial.Quo(p[0].Mono, q[0].Mono)
		if !ok {
			return false
		}
		coef, _ := rational.Div(p[0].Coef, q[0].Coef)
		p = poly.Sub(p, poly.Mul(api.Poly{{Coef: coef, Mono: mono}}, q))
	}
	return true
}

// P8.4 and P8.6: Exact undoes Mul, and finds no other quotients.
func TestExactRandom(t *testing.T) {
	r := newSource()
	none := 0
	for range 3 * rounds {
		p, q := randomPoly(r, 12, 4), randomPoly(r, 6, 3)
		if len(q) == 0 {
			continue
		}
		got, ok := pseudo.Exact(poly.Mul(p, q), q)
		expect(t, "Exact of a product", got, p)
		if !ok {
			t.Fatalf("%s does not divide a multiple", text(q))
		}
		other := poly.Add(poly.Mul(p, q), randomPoly(r, 1, 3))
		got, ok = pseudo.Exact(other, q)
		if ok != divides(other, q) || !ok && len(got) > 0 {
			t.Fatalf("Exact of %s and %s is %s, %v", text(other), text(q), text(got), ok)
		}
		if ok {
			expect(t, "the product", poly.Mul(got, q), other)
		} else {
			none++
		}
	}
	if none < rounds {
		t.Errorf("only %d quotients do not exist", none)
	}
}
