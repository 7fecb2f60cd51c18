package integer_test

import (
	"math"
	"math/big"
	"testing"

	"geoprover/api"
	"geoprover/integer"
)

// P2.1
func TestRight(t *testing.T) {
	for _, x := range []struct {
		a    api.Int
		want bool
	}{
		{api.Int{}, true},
		{api.Int{Abs: api.Nat{}}, true},
		{api.Int{Neg: true}, false},
		{api.Int{Neg: true, Abs: api.Nat{}}, false},
		{api.Int{Abs: api.Nat{0}}, false},
		{api.Int{Neg: true, Abs: api.Nat{0, 0}}, false},
		{api.Int{Abs: api.Nat{1}}, true},
		{api.Int{Neg: true, Abs: api.Nat{1}}, true},
		{api.Int{Abs: api.Nat{1, 0}}, false},
		{api.Int{Neg: true, Abs: api.Nat{1, 2, 0}}, false},
		{api.Int{Neg: true, Abs: api.Nat{0, 0, 1}}, true},
	} {
		if got := integer.Right(x.a); got != x.want {
			t.Errorf("Right(%v) = %v", x.a, got)
		}
	}
}

// P2.1
func TestNorm(t *testing.T) {
	for _, x := range []struct{ a, want api.Int }{
		{api.Int{}, api.Int{}},
		{api.Int{Neg: true}, api.Int{}},
		{api.Int{Abs: api.Nat{0}}, api.Int{}},
		{api.Int{Neg: true, Abs: api.Nat{0, 0}}, api.Int{}},
		{api.Int{Abs: api.Nat{1, 0}}, api.Int{Abs: api.Nat{1}}},
		{api.Int{Neg: true, Abs: api.Nat{0, 3, 0, 0}}, api.Int{Neg: true, Abs: api.Nat{0, 3}}},
		{api.Int{Neg: true, Abs: api.Nat{1, 2, 3}}, api.Int{Neg: true, Abs: api.Nat{1, 2, 3}}},
	} {
		if got := integer.Norm(x.a); !same(got, x.want) {
			t.Errorf("Norm(%v) = %v, want %v", x.a, got, x.want)
		}
	}
	r := newSource()
	for range rounds {
		a := randomInt(r, 6)
		got := integer.Norm(a)
		expect(t, "Norm", got, toBig(a))
		if !integer.Right(got) || integer.Right(a) != same(a, got) {
			t.Fatalf("Right of %v is %v, and of its Norm %v", a, integer.Right(a), integer.Right(got))
		}
	}
}

// P2.1
func TestOf(t *testing.T) {
	for _, n := range []int{0, 1, -1, 65535, -65535, 65536, -65536, -65537, 1 << 48, math.MaxInt32, math.MinInt32, math.MaxInt, math.MinInt + 1, math.MinInt} {
		expect(t, "Of", integer.Of(n), big.NewInt(int64(n)))
	}
}

// P2.2
func TestSign(t *testing.T) {
	for _, x := range []struct {
		a    api.Int
		want int
	}{
		{api.Int{}, 0},
		{api.Int{Neg: true}, 0},
		{api.Int{Abs: api.Nat{0, 0}}, 0},
		{api.Int{Neg: true, Abs: api.Nat{0, 0}}, 0},
		{api.Int{Abs: api.Nat{0, 1, 0}}, 1},
		{api.Int{Neg: true, Abs: api.Nat{0, 1, 0}}, -1},
	} {
		if got := integer.Sign(x.a); got != x.want {
			t.Errorf("Sign(%v) = %d, want %d", x.a, got, x.want)
		}
	}
}

// P2.2
func TestCmp(t *testing.T) {
	for _, x := range []struct {
		a, b api.Int
		want int
	}{
		{small(-3), small(-2), -1},
		{small(-3), small(2), -1},
		{small(3), small(2), 1},
		{small(3), small(-4), 1},
		{small(0), small(-1), 1},
		{small(0), small(1), -1},
		{small(-65536), small(-65535), -1},
		{small(7), small(7), 0},
		{small(-7), small(-7), 0},
		{api.Int{}, api.Int{Neg: true, Abs: api.Nat{0}}, 0},
		{api.Int{Neg: true, Abs: api.Nat{5, 0}}, small(-5), 0},
	} {
		if got := integer.Cmp(x.a, x.b); got != x.want {
			t.Errorf("Cmp(%v, %v) = %d, want %d", x.a, x.b, got, x.want)
		}
		if got := integer.Cmp(x.b, x.a); got != -x.want {
			t.Errorf("Cmp(%v, %v) = %d, want %d", x.b, x.a, got, -x.want)
		}
	}
	r := newSource()
	for range rounds {
		a, b := randomInt(r, 3), randomInt(r, 3)
		if got, want := integer.Cmp(a, b), toBig(a).Cmp(toBig(b)); got != want {
			t.Fatalf("Cmp(%v, %v) = %d, want %d", a, b, got, want)
		}
	}
}

// P2.2
func TestNeg(t *testing.T) {
	for _, x := range []struct{ a, want api.Int }{
		{api.Int{}, api.Int{}},
		{api.Int{Neg: true}, api.Int{}},
		{api.Int{Abs: api.Nat{0, 0}}, api.Int{}},
		{api.Int{Neg: true, Abs: api.Nat{0}}, api.Int{}},
		{small(5), small(-5)},
		{small(-65536), small(65536)},
		{api.Int{Abs: api.Nat{5, 0}}, small(-5)},
	} {
		if got := integer.Neg(x.a); !same(got, x.want) {
			t.Errorf("Neg(%v) = %v, want %v", x.a, got, x.want)
		}
	}
}
