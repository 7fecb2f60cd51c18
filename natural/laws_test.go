package natural_test

import (
	"testing"

	"geoprover/api"
	"geoprover/natural"
)

// P1.8: the laws of sums and products.
func TestLaws(t *testing.T) {
	r := newSource()
	for range rounds {
		a, b, c := randomNat(r, 12), randomNat(r, 12), randomNat(r, 12)
		if !same(natural.Add(a, b), natural.Add(b, a)) || !same(natural.Mul(a, b), natural.Mul(b, a)) {
			t.Fatalf("%v and %v do not commute", a, b)
		}
		if !same(natural.Add(natural.Add(a, b), c), natural.Add(a, natural.Add(b, c))) {
			t.Fatalf("Add of %v, %v, %v is not associative", a, b, c)
		}
		if !same(natural.Mul(natural.Mul(a, b), c), natural.Mul(a, natural.Mul(b, c))) {
			t.Fatalf("Mul of %v, %v, %v is not associative", a, b, c)
		}
		if !same(natural.Mul(a, natural.Add(b, c)), natural.Add(natural.Mul(a, b), natural.Mul(a, c))) {
			t.Fatalf("Mul of %v is not distributive over Add of %v, %v", a, b, c)
		}
	}
}

// P1.8: Sub undoes Add, DivMod undoes Mul, and Gcd is the greatest common divisor.
func TestInverses(t *testing.T) {
	r := newSource()
	for range rounds {
		a, b := randomNat(r, 12), randomNat(r, 12)
		if back, e := natural.Sub(natural.Add(a, b), b); !same(back, natural.Norm(a)) || e != api.OK {
			t.Fatalf("Sub does not undo Add of %v, %v", a, b)
		}
		if natural.Bits(b) == 0 {
			continue
		}
		if q, m := mustDivMod(t, natural.Mul(a, b), b); !same(q, natural.Norm(a)) || len(m) != 0 {
			t.Fatalf("DivMod does not undo Mul of %v, %v", a, b)
		}
		g := natural.Gcd(a, b)
		p, m := mustDivMod(t, a, g)
		q, n := mustDivMod(t, b, g)
		if len(m) != 0 || len(n) != 0 || !same(natural.Gcd(p, q), api.Nat{1}) {
			t.Fatalf("Gcd(%v, %v) = %v", a, b, g)
		}
	}
}
