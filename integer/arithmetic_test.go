package integer_test

import (
	"math/big"
	"slices"
	"testing"

	"geoprover/api"
	"geoprover/integer"
)

// P2.3
func TestSumsAndProducts(t *testing.T) {
	for _, x := range []struct{ a, b, sum, difference, product int64 }{
		{0, 0, 0, 0, 0},
		{3, 5, 8, -2, 15},
		{3, -5, -2, 8, -15},
		{-3, 5, 2, -8, -15},
		{-3, -5, -8, 2, 15},
		{-3, 3, 0, -6, -9},
		{3, 3, 6, 0, 9},
		{0, -7, -7, 7, 0},
		{-7, 0, -7, -7, 0},
		{65535, 1, 65536, 65534, 65535},
		{-65536, 1, -65535, -65537, -65536},
	} {
		a, b := small(x.a), small(x.b)
		expect(t, "Add", integer.Add(a, b), big.NewInt(x.sum))
		expect(t, "Sub", integer.Sub(a, b), big.NewInt(x.difference))
		expect(t, "Mul", integer.Mul(a, b), big.NewInt(x.product))
	}
}

// P2.3: the results of numbers that are not valid are valid, too.
func TestSumsOfNegativeZeros(t *testing.T) {
	zeros := []api.Int{{}, {Neg: true}, {Abs: api.Nat{0}}, {Neg: true, Abs: api.Nat{0, 0}}}
	for _, a := range zeros {
		for _, b := range zeros {
			for _, got := range []api.Int{integer.Add(a, b), integer.Sub(a, b), integer.Mul(a, b)} {
				expect(t, "zero", got, new(big.Int))
			}
		}
		for _, n := range []int64{5, -5} {
			expect(t, "Add", integer.Add(a, small(n)), big.NewInt(n))
			expect(t, "Sub", integer.Sub(a, small(n)), big.NewInt(-n))
			expect(t, "Sub", integer.Sub(small(n), a), big.NewInt(n))
			expect(t, "Mul", integer.Mul(small(n), a), new(big.Int))
		}
	}
}

// P2.3
func TestSumsAgainstBig(t *testing.T) {
	r := newSource()
	for range rounds {
		a, b := randomInt(r, 10), randomInt(r, 10)
		x, y := toBig(a), toBig(b)
		expect(t, "Add", integer.Add(a, b), new(big.Int).Add(x, y))
		expect(t, "Sub", integer.Sub(a, b), new(big.Int).Sub(x, y))
		expect(t, "Mul", integer.Mul(a, b), new(big.Int).Mul(x, y))
		expect(t, "Neg", integer.Neg(a), new(big.Int).Neg(x))
	}
}

// P2.4
func TestDivMod(t *testing.T) {
	for _, x := range []struct{ a, b, q, r int64 }{
		{7, 2, 3, 1},
		{-7, 2, -4, 1},
		{7, -2, -3, 1},
		{-7, -2, 4, 1},
		{-6, 2, -3, 0},
		{6, -2, -3, 0},
		{-6, -2, 3, 0},
		{0, -5, 0, 0},
		{3, 5, 0, 3},
		{-3, 5, -1, 2},
		{3, -5, 0, 3},
		{-3, -5, 1, 2},
		{-65536, 65535, -2, 65534},
	} {
		q, r, e := integer.DivMod(small(x.a), small(x.b))
		if !same(q, small(x.q)) || !same(r, small(x.r)) || e != api.OK {
			t.Errorf("DivMod(%d, %d) = %v, %v, %d, want %d, %d", x.a, x.b, q, r, e, x.q, x.r)
		}
	}
	r := newSource()
	for range rounds {
		a, b := randomInt(r, 10), randomInt(r, 5)
		if integer.Sign(b) == 0 {
			continue
		}
		q, m, e := integer.DivMod(a, b)
		wantQ, wantM := new(big.Int).DivMod(toBig(a), toBig(b), new(big.Int))
		expect(t, "quotient", q, wantQ)
		expect(t, "rest", m, wantM)
		if e != api.OK {
			t.Fatalf("DivMod(%v, %v): error %d", a, b, e)
		}
	}
}

// P2.4
func TestDivModByZero(t *testing.T) {
	for _, zero := range []api.Int{{}, {Neg: true}, {Abs: api.Nat{0}}, {Neg: true, Abs: api.Nat{0, 0}}} {
		for _, n := range []int64{0, 1, -1, -65537} {
			q, r, e := integer.DivMod(small(n), zero)
			if !same(q, api.Int{}) || !same(r, api.Int{}) || e != api.ErrZero {
				t.Errorf("DivMod(%d, %v) = %v, %v, %d, want ErrZero", n, zero, q, r, e)
			}
		}
	}
}

// P2.4
func TestGcd(t *testing.T) {
	for _, x := range []struct{ a, b, want int64 }{
		{0, 0, 0},
		{0, -5, 5},
		{-5, 0, 5},
		{12, 18, 6},
		{-12, 18, 6},
		{12, -18, 6},
		{-12, -18, 6},
		{-1, 65536, 1},
	} {
		if got := integer.Gcd(small(x.a), small(x.b)); !slices.Equal(got, small(x.want).Abs) {
			t.Errorf("Gcd(%d, %d) = %v, want %d", x.a, x.b, got, x.want)
		}
	}
	if got := integer.Gcd(api.Int{Neg: true, Abs: api.Nat{0, 0}}, api.Int{Neg: true, Abs: api.Nat{9, 0}}); !slices.Equal(got, api.Nat{9}) {
		t.Errorf("Gcd of numbers that are not valid is %v", got)
	}
}

// P2.6: the integers are an ordered commutative ring.
func TestRing(t *testing.T) {
	r := newSource()
	for range rounds {
		a, b, c := randomInt(r, 6), randomInt(r, 6), randomInt(r, 6)
		for law, x := range map[string][2]api.Int{
			"a + b = b + a":             {integer.Add(a, b), integer.Add(b, a)},
			"a b = b a":                 {integer.Mul(a, b), integer.Mul(b, a)},
			"(a + b) + c = a + (b + c)": {integer.Add(integer.Add(a, b), c), integer.Add(a, integer.Add(b, c))},
			"(a b) c = a (b c)":         {integer.Mul(integer.Mul(a, b), c), integer.Mul(a, integer.Mul(b, c))},
			"a (b + c) = a b + a c":     {integer.Mul(a, integer.Add(b, c)), integer.Add(integer.Mul(a, b), integer.Mul(a, c))},
			"a + 0 = a":                 {integer.Add(a, api.Int{}), integer.Norm(a)},
			"a 1 = a":                   {integer.Mul(a, integer.Of(1)), integer.Norm(a)},
			"a + -a = 0":                {integer.Add(a, integer.Neg(a)), {}},
			"a - b = a + -b":            {integer.Sub(a, b), integer.Add(a, integer.Neg(b))},
			"--a = a":                   {integer.Neg(integer.Neg(a)), integer.Norm(a)},
		} {
			if !same(x[0], x[1]) {
				t.Fatalf("%s does not hold for %v, %v, %v", law, a, b, c)
			}
		}
		order := integer.Cmp(a, b)
		if integer.Cmp(integer.Add(a, c), integer.Add(b, c)) != order {
			t.Fatalf("Cmp of %v, %v is not compatible with Add of %v", a, b, c)
		}
		if integer.Cmp(integer.Mul(a, c), integer.Mul(b, c)) != order*integer.Sign(c) {
			t.Fatalf("Cmp of %v, %v is not compatible with Mul by %v", a, b, c)
		}
		if integer.Sign(integer.Mul(a, b)) != integer.Sign(a)*integer.Sign(b) {
			t.Fatalf("sign of the product of %v, %v", a, b)
		}
	}
}
