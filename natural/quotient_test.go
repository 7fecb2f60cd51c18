package natural_test

import (
	"math/big"
	"testing"

	"geoprover/api"
	"geoprover/natural"
)

// P1.4
func TestDivMod(t *testing.T) {
	for _, x := range []struct{ a, b, q, r api.Nat }{
		{nil, api.Nat{3}, nil, nil},
		{api.Nat{0, 0}, api.Nat{3, 0}, nil, nil},
		{api.Nat{100}, api.Nat{7}, api.Nat{14}, api.Nat{2}},
		{api.Nat{7}, api.Nat{7, 0, 0}, api.Nat{1}, nil},
		{api.Nat{5, 0}, api.Nat{0, 1}, nil, api.Nat{5}},
		{api.Nat{0, 0, 0, 0, 1}, api.Nat{0, 0, 1}, api.Nat{0, 0, 1}, nil},
		{api.Nat{5, 0, 0, 0, 1}, api.Nat{1}, api.Nat{5, 0, 0, 0, 1}, nil},
		{api.Nat{1, 2, 3, 4, 5, 6}, api.Nat{1, 2, 3, 4, 5, 6, 0}, api.Nat{1}, nil},
		{api.Nat{0, 2, 3, 4, 5, 6}, api.Nat{1, 2, 3, 4, 5, 6}, nil, api.Nat{0, 2, 3, 4, 5, 6}},
	} {
		if q, r, e := natural.DivMod(x.a, x.b); !same(q, x.q) || !same(r, x.r) || e != api.OK {
			t.Errorf("DivMod(%v, %v) = %v, %v, %d, want %v, %v", x.a, x.b, q, r, e, x.q, x.r)
		}
	}
}

// P1.4
func TestDivModByZero(t *testing.T) {
	for _, zero := range []api.Nat{nil, {}, {0}, {0, 0, 0}} {
		for _, a := range []api.Nat{nil, {0}, {1}, {1, 2, 3, 4, 5, 6, 7}} {
			if q, r, e := natural.DivMod(a, zero); len(q) != 0 || len(r) != 0 || e != api.ErrZero {
				t.Errorf("DivMod(%v, %v) = %v, %v, %d, want ErrZero", a, zero, q, r, e)
			}
		}
	}
}

// P1.4
func TestDivModAgainstBig(t *testing.T) {
	r := newSource()
	for range 10 * rounds {
		a, b := randomNat(r, 30), randomNat(r, 16)
		if natural.Bits(b) == 0 {
			continue
		}
		q, m := mustDivMod(t, a, b)
		wantQ, wantM := new(big.Int).QuoRem(toBig(a), toBig(b), new(big.Int))
		expect(t, "quotient", q, wantQ)
		expect(t, "rest", m, wantM)
	}
}

// P1.4: dividends just below and just above multiples of the divisor, where a digit of the quotient is guessed too great.
func TestDivModNearMultiples(t *testing.T) {
	r := newSource()
	one := api.Nat{1}
	for range rounds {
		b, q := randomNat(r, 14), randomNat(r, 14)
		if natural.Bits(b) < 65 || natural.Bits(q) == 0 {
			continue
		}
		product := natural.Mul(b, q)
		below, _ := natural.Sub(product, one)
		gotQ, gotR := mustDivMod(t, below, b)
		expect(t, "quotient", gotQ, new(big.Int).Sub(toBig(q), big.NewInt(1)))
		expect(t, "rest", gotR, new(big.Int).Sub(toBig(b), big.NewInt(1)))
		gotQ, gotR = mustDivMod(t, natural.Add(product, one), b)
		expect(t, "quotient", gotQ, toBig(q))
		expect(t, "rest", gotR, big.NewInt(1))
	}
}

// P1.4
func TestGcd(t *testing.T) {
	for _, x := range []struct{ a, b, want api.Nat }{
		{nil, nil, nil},
		{api.Nat{0, 0}, api.Nat{0}, nil},
		{nil, api.Nat{0, 5, 0}, api.Nat{0, 5}},
		{api.Nat{1, 2, 3, 4, 5, 6, 0}, nil, api.Nat{1, 2, 3, 4, 5, 6}},
		{api.Nat{12}, api.Nat{18}, api.Nat{6}},
		{api.Nat{12, 0}, api.Nat{18, 0, 0}, api.Nat{6}},
		{api.Nat{7}, api.Nat{7}, api.Nat{7}},
		{api.Nat{1}, api.Nat{1, 2, 3, 4, 5, 6}, api.Nat{1}},
		{api.Nat{8, 0, 0, 0, 0, 8}, api.Nat{12}, api.Nat{4}},
		{api.Nat{1, 2, 3, 4, 5, 6}, api.Nat{1, 2, 3, 4, 5, 6}, api.Nat{1, 2, 3, 4, 5, 6}},
	} {
		if got := natural.Gcd(x.a, x.b); !same(got, x.want) {
			t.Errorf("Gcd(%v, %v) = %v, want %v", x.a, x.b, got, x.want)
		}
		if got := natural.Gcd(x.b, x.a); !same(got, x.want) {
			t.Errorf("Gcd(%v, %v) = %v, want %v", x.b, x.a, got, x.want)
		}
	}
}

// P1.4: numbers without and with great common divisors.
func TestGcdAgainstBig(t *testing.T) {
	r := newSource()
	for range rounds {
		a, b, c := randomNat(r, 40), randomNat(r, 40), randomNat(r, 30)
		expect(t, "Gcd", natural.Gcd(a, b), new(big.Int).GCD(nil, nil, toBig(a), toBig(b)))
		a, b = natural.Mul(a, c), natural.Mul(b, c)
		expect(t, "Gcd", natural.Gcd(a, b), new(big.Int).GCD(nil, nil, toBig(a), toBig(b)))
	}
}

// P1.4: Fibonacci numbers take the most steps, each with the quotient 1.
func TestGcdOfFibonacciNumbers(t *testing.T) {
	f, g := natural.Of(1), natural.Of(1)
	for range 3000 {
		f, g = g, natural.Add(f, g)
	}
	if got := natural.Gcd(f, g); !same(got, api.Nat{1}) {
		t.Errorf("Gcd of consecutive Fibonacci numbers is %v", got)
	}
	c := api.Nat{3, 1, 4, 1, 5, 9}
	if got := natural.Gcd(natural.Mul(f, c), natural.Mul(g, c)); !same(got, c) {
		t.Errorf("Gcd of their multiples is %v", got)
	}
}

// P1.4: numbers whose products with the Fibonacci numbers, the coefficients of Euclid's algorithm here, carry between words.
func TestGcdWithCarries(t *testing.T) {
	word := new(big.Int).Lsh(big.NewInt(1), 64)
	modulus := new(big.Int).Mul(word, word)
	divisor := toBig(api.Nat{3, 1, 4, 1, 5, 9, 2, 6, 5})
	inverse := new(big.Int).ModInverse(divisor, modulus)

	// multiple returns a multiple of the divisor with these highest and lowest bits.
	multiple := func(high uint64, low *big.Int) *big.Int {
		a := new(big.Int).Mul(low, inverse)
		a.Mod(a, modulus)
		a.Add(a, new(big.Int).Mul(new(big.Int).SetUint64(high), modulus))
		return a.Mul(a, divisor)
	}

	fibonacci := []uint64{1, 1}
	for k := 1; k < 92; k++ {
		fibonacci = append(fibonacci, fibonacci[k]+fibonacci[k-1])
	}
	for _, f := range fibonacci[:48] {
		if f%2 == 0 {
			continue
		}
		// f times the second word is -1, and the first product carries something to it.
		second := new(big.Int).ModInverse(new(big.Int).SetUint64(f), word)
		low := new(big.Int).Mul(second.Sub(word, second), word)
		low.Add(low, new(big.Int).Sub(word, big.NewInt(1)))
		for _, other := range []*big.Int{low, big.NewInt(1)} {
			for _, x := range [][2]*big.Int{{low, other}, {other, low}} {
				a, b := multiple(fibonacci[92], x[0]), multiple(fibonacci[91], x[1])
				want := new(big.Int).GCD(nil, nil, a, b)
				expect(t, "Gcd", natural.Gcd(fromBig(a), fromBig(b)), want)
			}
		}
	}
}
