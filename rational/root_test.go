package rational_test

import (
	"math/big"
	"testing"

	"geoprover/api"
	"geoprover/rational"
)

// P3.4
func TestFloor(t *testing.T) {
	for _, x := range []struct {
		a    api.Rat
		want int64
	}{
		{api.Rat{}, 0},
		{raw(7), 0},
		{raw(-7, 0), 0},
		{number("0"), 0},
		{number("1/2"), 0},
		{number("-1/2"), -1},
		{number("7"), 7},
		{number("-7"), -7},
		{number("7/3"), 2},
		{number("-7/3"), -3},
		{raw(-6, 3), -2},
		{raw(-7, 2, 0), -4},
	} {
		if got := rational.Floor(x.a); !sameInt(got, fromBigInt(big.NewInt(x.want))) {
			t.Errorf("Floor(%v) = %v, want %d", x.a, got, x.want)
		}
	}
	r := newSource()
	for range rounds {
		a := randomRat(r, 6)
		x := toBig(a)
		want := new(big.Int).Div(x.Num(), x.Denom()) // rounds down, since the denominator is positive
		if got := rational.Floor(a); !sameInt(got, fromBigInt(want)) {
			t.Fatalf("Floor(%v) = %v, want %v", a, got, want)
		}
	}
}

// P3.4
func TestSqrt(t *testing.T) {
	for _, x := range []struct {
		a    api.Rat
		want string
	}{
		{api.Rat{}, "0"},
		{raw(0, 1), "0"},
		{raw(0, 3), "0"},
		{raw(-4), "0"},
		{raw(1, 1), "1"},
		{raw(4, 1), "2"},
		{raw(9, 4), "3/2"},
		{raw(1, 9), "1/3"},
		{raw(8, 18), "2/3"},
		{raw(2, 8), "1/2"},
		{raw(2, 2, 0), "1"},
	} {
		if got, ok := rational.Sqrt(x.a); !same(got, number(x.want)) || !ok {
			t.Errorf("Sqrt(%v) = %v, %v, want %s", x.a, got, ok, x.want)
		}
	}
	for _, a := range []api.Rat{raw(2, 1), raw(3, 4), raw(4, 3), raw(1, 2), raw(-1, 1), raw(-4, 9), raw(8, 4), raw(4, 8), raw(65535, 1), raw(-2, 8)} {
		if got, ok := rational.Sqrt(a); !same(got, api.Rat{}) || ok {
			t.Errorf("Sqrt(%v) = %v, %v", a, got, ok)
		}
	}
}

// P3.4: squares, and their neighbours.
func TestSqrtRandom(t *testing.T) {
	r := newSource()
	for range rounds {
		root := new(big.Rat).Abs(toBig(randomRat(r, 5)))
		square := new(big.Rat).Mul(root, root)
		got, ok := rational.Sqrt(fromBig(square))
		expect(t, "Sqrt", got, root)
		if !ok {
			t.Fatalf("Sqrt(%v) is none", square)
		}
		if root.Sign() == 0 {
			continue
		}
		beside := api.Rat{Num: fromBigInt(new(big.Int).Add(square.Num(), big.NewInt(1))), Den: fromBigNat(square.Denom())}
		den := new(big.Int).Mul(toBig(beside).Num(), toBig(beside).Denom())
		rootOfDen := new(big.Int).Sqrt(den) // p/q is a square exactly if p q is one
		isSquare := new(big.Int).Mul(rootOfDen, rootOfDen).Cmp(den) == 0
		if _, ok := rational.Sqrt(beside); ok != isSquare {
			t.Fatalf("Sqrt(%v) = %v", beside, ok)
		}
	}
}
