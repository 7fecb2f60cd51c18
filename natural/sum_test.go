package natural_test

import (
	"math/big"
	"testing"

	"geoprover/api"
	"geoprover/natural"
)

// P1.3
func TestSums(t *testing.T) {
	for _, x := range []struct{ a, b, sum api.Nat }{
		{nil, nil, nil},
		{api.Nat{0, 0}, api.Nat{0}, nil},
		{api.Nat{3, 0}, nil, api.Nat{3}},
		{api.Nat{65535}, api.Nat{1}, api.Nat{0, 1}},
		{api.Nat{65535, 65535}, api.Nat{1, 0, 0, 0}, api.Nat{0, 0, 1}},
		{api.Nat{65535, 65535}, api.Nat{65535, 65535}, api.Nat{65534, 65535, 1}},
		{api.Nat{1}, api.Nat{65535, 65535, 7}, api.Nat{0, 0, 8}},
	} {
		if got := natural.Add(x.a, x.b); !same(got, x.sum) {
			t.Errorf("Add(%v, %v) = %v, want %v", x.a, x.b, got, x.sum)
		}
		if got, e := natural.Sub(x.sum, x.b); !same(got, natural.Norm(x.a)) || e != api.OK {
			t.Errorf("Sub(%v, %v) = %v, %d", x.sum, x.b, got, e)
		}
	}
}

// P1.3
func TestSubErrors(t *testing.T) {
	for _, x := range []struct{ a, b api.Nat }{
		{nil, api.Nat{1}},
		{api.Nat{1}, api.Nat{2, 0}},
		{api.Nat{65535, 0, 0}, api.Nat{0, 1}},
		{api.Nat{5, 6, 7}, api.Nat{4, 7, 7}},
	} {
		if got, e := natural.Sub(x.a, x.b); len(got) != 0 || e != api.ErrRange {
			t.Errorf("Sub(%v, %v) = %v, %d, want ErrRange", x.a, x.b, got, e)
		}
	}
	if got, e := natural.Sub(api.Nat{9, 9}, api.Nat{9, 9, 0}); len(got) != 0 || e != api.OK {
		t.Errorf("Sub of equal numbers is %v, %d", got, e)
	}
}

// P1.3
func TestMul(t *testing.T) {
	for _, x := range []struct{ a, b, want api.Nat }{
		{nil, nil, nil},
		{api.Nat{7, 0}, nil, nil},
		{api.Nat{0, 0}, api.Nat{1, 2, 3, 4, 5, 6}, nil},
		{api.Nat{1, 0}, api.Nat{1, 2, 3, 4, 5, 6}, api.Nat{1, 2, 3, 4, 5, 6}},
		{api.Nat{65535}, api.Nat{65535}, api.Nat{1, 65534}},
		{api.Nat{65535, 65535}, api.Nat{65535, 65535}, api.Nat{1, 0, 65534, 65535}},
		{api.Nat{0, 0, 0, 0, 1}, api.Nat{0, 0, 0, 2}, api.Nat{0, 0, 0, 0, 0, 0, 0, 2}},
	} {
		if got := natural.Mul(x.a, x.b); !same(got, x.want) {
			t.Errorf("Mul(%v, %v) = %v, want %v", x.a, x.b, got, x.want)
		}
	}
}

// P1.3: sums, differences and products of numbers of many lengths are those of package math/big.
func TestSumsAndProducts(t *testing.T) {
	r := newSource()
	for range rounds {
		a, b := randomNat(r, 20), randomNat(r, 20)
		x, y := toBig(a), toBig(b)
		expect(t, "Add", natural.Add(a, b), new(big.Int).Add(x, y))
		expect(t, "Mul", natural.Mul(a, b), new(big.Int).Mul(x, y))
		difference := new(big.Int).Sub(x, y)
		got, e := natural.Sub(a, b)
		if difference.Sign() < 0 {
			if len(got) != 0 || e != api.ErrRange {
				t.Fatalf("Sub(%v, %v) = %v, %d", a, b, got, e)
			}
			continue
		}
		expect(t, "Sub", got, difference)
		if e != api.OK {
			t.Fatalf("Sub(%v, %v): error %d", a, b, e)
		}
	}
}
