package monomial_test

import (
	"testing"

	"geoprover/api"
	"geoprover/monomial"
)

// P5.3, P5.4
func TestPairs(t *testing.T) {
	for _, x := range []struct {
		a, b, product, multiple api.Mono
		divides, coprime        bool
	}{
		{nil, nil, nil, nil, true, true},
		{nil, api.Mono{0, 2}, api.Mono{0, 2}, api.Mono{0, 2}, true, true},
		{api.Mono{2, 1}, api.Mono{1}, api.Mono{3, 1}, api.Mono{2, 1}, false, false},
		{api.Mono{1}, api.Mono{2, 1}, api.Mono{3, 1}, api.Mono{2, 1}, true, false},
		{api.Mono{2}, api.Mono{1, 5}, api.Mono{3, 5}, api.Mono{2, 5}, false, false},
		{api.Mono{3}, api.Mono{0, 2}, api.Mono{3, 2}, api.Mono{3, 2}, false, true},
		{api.Mono{1, 0, 4}, api.Mono{0, 2, 4}, api.Mono{1, 2, 8}, api.Mono{1, 2, 4}, false, false},
		{api.Mono{1, 0, 4}, api.Mono{0, 2}, api.Mono{1, 2, 4}, api.Mono{1, 2, 4}, false, true},
		{api.Mono{1, 2, 3}, api.Mono{1, 2, 3}, api.Mono{2, 4, 6}, api.Mono{1, 2, 3}, true, false},
		{api.Mono{api.MaxExp - 1}, api.Mono{1}, api.Mono{api.MaxExp}, api.Mono{api.MaxExp - 1}, false, false},
		{power(api.MaxVars-1, 1), api.Mono{1}, append(append(api.Mono{1}, make(api.Mono, api.MaxVars-2)...), 1), append(append(api.Mono{1}, make(api.Mono, api.MaxVars-2)...), 1), false, true},
	} {
		expect(t, "Mul", monomial.Mul(x.a, x.b), x.product)
		expect(t, "Lcm", monomial.Lcm(x.a, x.b), x.multiple)
		if got := monomial.Divides(x.a, x.b); got != x.divides {
			t.Errorf("Divides(%v, %v) = %v", x.a, x.b, got)
		}
		if monomial.Coprime(x.a, x.b) != x.coprime || monomial.Coprime(x.b, x.a) != x.coprime {
			t.Errorf("Coprime of %v and %v is not %v", x.a, x.b, x.coprime)
		}
	}
}

// P5.3: exponents greater than MaxExp.
func TestMulLarge(t *testing.T) {
	got := monomial.Mul(api.Mono{1, api.MaxExp}, api.Mono{2, 1})
	if !same(got, api.Mono{3, api.MaxExp + 1}) || monomial.Right(got) {
		t.Errorf("Mul is %v", got)
	}
	got = monomial.Mul(full(api.MaxVars, api.MaxExp), full(api.MaxVars, api.MaxExp))
	if !same(got, full(api.MaxVars, 2*api.MaxExp)) || monomial.Right(got) {
		t.Errorf("Mul is %v", got)
	}
}

// P5.4
func TestQuo(t *testing.T) {
	for _, x := range []struct {
		a, b, want api.Mono
		ok         bool
	}{
		{api.Mono{2, 1}, api.Mono{1}, api.Mono{1, 1}, true},
		{api.Mono{2, 1}, api.Mono{0, 1}, api.Mono{2}, true},
		{api.Mono{2, 1}, api.Mono{2, 1}, nil, true},
		{api.Mono{2, 1}, nil, api.Mono{2, 1}, true},
		{api.Mono{2, 3, 1}, api.Mono{1, 3, 1}, api.Mono{1}, true},
		{nil, nil, nil, true},
		{api.Mono{1}, api.Mono{0, 1}, nil, false},
		{api.Mono{1}, api.Mono{2}, nil, false},
		{api.Mono{5, 1}, api.Mono{1, 2}, nil, false},
		{api.Mono{1, 5}, api.Mono{2, 1}, nil, false},
		{nil, api.Mono{1}, nil, false},
	} {
		got, ok := monomial.Quo(x.a, x.b)
		expect(t, "Quo", got, x.want)
		if ok != x.ok {
			t.Errorf("Quo(%v, %v) returns %v", x.a, x.b, ok)
		}
	}
}
