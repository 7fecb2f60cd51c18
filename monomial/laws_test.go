package monomial_test

import (
	"testing"

	"geoprover/api"
	"geoprover/monomial"
)

// P5.6: the laws of products and quotients.
func TestProducts(t *testing.T) {
	r := newSource()
	for range rounds {
		a, b, c := randomMono(r, 5), randomMono(r, 5), randomMono(r, 5)
		product := monomial.Mul(a, b)
		expect(t, "Mul", monomial.Mul(b, a), product)
		expect(t, "Mul", monomial.Mul(a, monomial.Mul(b, c)), monomial.Mul(product, c))
		expect(t, "Mul by 1", monomial.Mul(a, nil), a)
		if back, ok := monomial.Quo(product, b); !same(back, a) || !ok {
			t.Fatalf("Quo does not undo Mul of %v and %v", a, b)
		}
		q, ok := monomial.Quo(a, b)
		if ok != monomial.Divides(b, a) || ok && !same(monomial.Mul(q, b), a) {
			t.Fatalf("Quo(%v, %v) = %v, %v", a, b, q, ok)
		}
		if monomial.Degree(product) != monomial.Degree(a)+monomial.Degree(b) || monomial.Main(product) != max(monomial.Main(a), monomial.Main(b)) {
			t.Fatalf("degree or main variable of the product of %v and %v", a, b)
		}
	}
}

// P5.6: the laws of the least common multiple.
func TestMultiples(t *testing.T) {
	r := newSource()
	for range rounds {
		a, b, c := randomMono(r, 4), randomMono(r, 4), randomMono(r, 4)
		multiple := monomial.Lcm(a, b)
		expect(t, "Lcm", monomial.Lcm(b, a), multiple)
		if !monomial.Divides(a, multiple) || !monomial.Divides(b, multiple) {
			t.Fatalf("Lcm(%v, %v) = %v is no multiple", a, b, multiple)
		}
		if monomial.Divides(a, c) && monomial.Divides(b, c) && !monomial.Divides(multiple, c) {
			t.Fatalf("Lcm(%v, %v) = %v does not divide %v", a, b, multiple, c)
		}
		if monomial.Coprime(a, b) != same(multiple, monomial.Mul(a, b)) {
			t.Fatalf("Coprime of %v and %v with the multiple %v", a, b, multiple)
		}
	}
}

// P5.6: the laws of the orders.
func TestOrders(t *testing.T) {
	r := newSource()
	for range rounds {
		a, b, c := randomMono(r, 4), randomMono(r, 4), randomMono(r, 4)
		for _, order := range []int{api.Lex, api.DegLex} {
			ab, bc := monomial.Cmp(a, b, order), monomial.Cmp(b, c, order)
			if ab != -monomial.Cmp(b, a, order) || (ab == 0) != same(a, b) {
				t.Fatalf("order %d of %v and %v: %d", order, a, b, ab)
			}
			if ab == bc && monomial.Cmp(a, c, order) != ab {
				t.Fatalf("order %d of %v, %v, %v is not transitive", order, a, b, c)
			}
			if (monomial.Cmp(nil, a, order) < 0) != (len(a) > 0) {
				t.Fatalf("order %d: 1 is not less than %v", order, a)
			}
			if monomial.Cmp(monomial.Mul(a, c), monomial.Mul(b, c), order) != ab {
				t.Fatalf("order %d: Mul by %v changes the order of %v and %v", order, c, a, b)
			}
		}
	}
}
