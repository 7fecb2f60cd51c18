package rational_test

import (
	"math/big"
	"testing"

	"geoprover/api"
	"geoprover/rational"
)

// P3.3
func TestNeg(t *testing.T) {
	for _, x := range []struct {
		a    api.Rat
		want string
	}{
		{api.Rat{}, "0"},
		{raw(0, 1), "0"},
		{raw(0, 6), "0"},
		{raw(5, 0), "0"},
		{raw(5, 1), "-5"},
		{raw(-5, 1), "5"},
		{raw(1, 2), "-1/2"},
		{raw(-6, 4), "3/2"},
	} {
		if got := rational.Neg(x.a); !same(got, number(x.want)) {
			t.Errorf("Neg(%v) = %v, want %s", x.a, got, x.want)
		}
	}
}

// P3.3
func TestOperations(t *testing.T) {
	for _, x := range []struct {
		a, b                         api.Rat
		sum, rest, product, quotient string
	}{
		{number("1/2"), number("1/3"), "5/6", "1/6", "1/6", "3/2"},
		{number("1/6"), number("1/3"), "1/2", "-1/6", "1/18", "1/2"},
		{number("1/2"), number("1/2"), "1", "0", "1/4", "1"},
		{number("-2/3"), number("3/2"), "5/6", "-13/6", "-1", "-4/9"},
		{number("2"), number("-3"), "-1", "5", "-6", "-2/3"},
		{number("0"), number("-3/4"), "-3/4", "3/4", "0", "0"},
		{number("4"), number("-3/4"), "13/4", "19/4", "-3", "-16/3"},
		{number("-3/4"), number("-4"), "-19/4", "13/4", "3", "3/16"},
		{raw(2, 4), raw(-3, 9), "1/6", "5/6", "-1/6", "-3/2"},
		{api.Rat{}, raw(6, 3), "2", "-2", "0", "0"},
		{raw(7, 0), raw(6, 4, 0), "3/2", "-3/2", "0", "0"},
	} {
		quotient, e := rational.Div(x.a, x.b)
		if !same(quotient, number(x.quotient)) || e != api.OK {
			t.Errorf("Div(%v, %v) = %v, %d, want %s", x.a, x.b, quotient, e, x.quotient)
		}
		if got := rational.Add(x.a, x.b); !same(got, number(x.sum)) {
			t.Errorf("Add(%v, %v) = %v, want %s", x.a, x.b, got, x.sum)
		}
		if got := rational.Sub(x.a, x.b); !same(got, number(x.rest)) {
			t.Errorf("Sub(%v, %v) = %v, want %s", x.a, x.b, got, x.rest)
		}
		if got := rational.Mul(x.a, x.b); !same(got, number(x.product)) {
			t.Errorf("Mul(%v, %v) = %v, want %s", x.a, x.b, got, x.product)
		}
	}
}

// P3.3
func TestOperationsRandom(t *testing.T) {
	r := newSource()
	for range rounds {
		limbs := 1 + r.Intn(10)
		a, b := randomRat(r, limbs), randomRat(r, limbs)
		x, y := toBig(a), toBig(b)
		expect(t, "Neg", rational.Neg(a), new(big.Rat).Neg(x))
		expect(t, "Add", rational.Add(a, b), new(big.Rat).Add(x, y))
		expect(t, "Sub", rational.Sub(a, b), new(big.Rat).Sub(x, y))
		expect(t, "Mul", rational.Mul(a, b), new(big.Rat).Mul(x, y))
		if y.Sign() == 0 {
			continue
		}
		quotient, e := rational.Div(a, b)
		expect(t, "Div", quotient, new(big.Rat).Quo(x, y))
		if e != api.OK {
			t.Fatalf("Div(%v, %v): %d", a, b, e)
		}
	}
}

// P3.3: division by 0.
func TestDivZero(t *testing.T) {
	for _, a := range []api.Rat{{}, number("0"), number("-2/3")} {
		for _, b := range []api.Rat{{}, raw(0, 1), raw(0, 5), raw(5, 0), {Num: api.Int{Neg: true, Abs: api.Nat{0}}, Den: api.Nat{3}}} {
			if got, e := rational.Div(a, b); !same(got, api.Rat{}) || e != api.ErrZero {
				t.Errorf("Div(%v, %v) = %v, %d", a, b, got, e)
			}
		}
	}
}
