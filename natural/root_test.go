package natural_test

import (
	"math/big"
	"testing"

	"geoprover/api"
	"geoprover/natural"
)

// P1.5
func TestSqrt(t *testing.T) {
	for n := range uint64(70000) {
		root, rest := natural.Sqrt(natural.Of(n))
		x, _ := natural.Uint(root)
		y, _ := natural.Uint(rest)
		if x*x+y != n || y > 2*x {
			t.Fatalf("Sqrt(%d) = %v, %v", n, root, rest)
		}
	}
	if root, rest := natural.Sqrt(api.Nat{17, 0, 0}); !same(root, api.Nat{4}) || !same(rest, api.Nat{1}) {
		t.Errorf("Sqrt(17) = %v, %v", root, rest)
	}
	if root, rest := natural.Sqrt(api.Nat{0, 0}); len(root) != 0 || len(rest) != 0 {
		t.Errorf("Sqrt(0) = %v, %v", root, rest)
	}
}

// P1.5: squares, their neighbours, and other numbers.
func TestSqrtAgainstBig(t *testing.T) {
	r := newSource()
	check := func(x *big.Int) {
		t.Helper()
		root, rest := natural.Sqrt(fromBig(x))
		want := new(big.Int).Sqrt(x)
		expect(t, "root", root, want)
		expect(t, "rest", rest, new(big.Int).Sub(x, want.Mul(want, want)))
	}
	one := big.NewInt(1)
	for range rounds {
		a := toBig(randomNat(r, 20))
		check(a)
		square := new(big.Int).Mul(a, a)
		check(square)
		check(new(big.Int).Add(square, one))
		if square.Sign() > 0 {
			check(new(big.Int).Sub(square, one))
		}
	}
}
