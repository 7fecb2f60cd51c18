package rational_test

import (
	"testing"

	"geoprover/api"
	"geoprover/rational"
)

// P3.2
func TestSign(t *testing.T) {
	for _, x := range []struct {
		a    api.Rat
		want int
	}{
		{api.Rat{}, 0},
		{raw(0, 1), 0},
		{raw(0, 7), 0},
		{raw(5, 0), 0},
		{raw(-5), 0},
		{api.Rat{Num: api.Int{Neg: true}, Den: api.Nat{1}}, 0},
		{api.Rat{Num: api.Int{Neg: true, Abs: api.Nat{0, 0}}, Den: api.Nat{2}}, 0},
		{raw(2, 4), 1},
		{raw(-2, 4), -1},
		{raw(3, 1, 0), 1},
		{raw(-3, 1, 0), -1},
	} {
		if got := rational.Sign(x.a); got != x.want {
			t.Errorf("Sign(%v) = %d, want %d", x.a, got, x.want)
		}
	}
}

// P3.2
func TestCmp(t *testing.T) {
	for _, x := range []struct {
		a, b api.Rat
		want int
	}{
		{number("1/3"), number("1/2"), -1},
		{number("-1/3"), number("-1/2"), 1},
		{number("-1/3"), number("1/2"), -1},
		{number("0"), number("1/1000"), -1},
		{number("0"), number("-1/1000"), 1},
		{number("7"), number("7"), 0},
		{number("7"), number("8"), -1},
		{number("7"), number("15/2"), -1},
		{number("5/7"), number("5/8"), 1},
		{raw(2, 4), raw(1, 2), 0},
		{raw(-2, 4), raw(1, 2), -1},
		{raw(-6, 4, 0), raw(-3, 2), 0},
		{api.Rat{}, raw(0, 1), 0},
		{raw(5), raw(0, 3), 0},
		{raw(5, 0), raw(1, 3), -1},
		{raw(5, 0), raw(-1, 3), 1},
	} {
		if got := rational.Cmp(x.a, x.b); got != x.want {
			t.Errorf("Cmp(%v, %v) = %d, want %d", x.a, x.b, got, x.want)
		}
		if got := rational.Cmp(x.b, x.a); got != -x.want {
			t.Errorf("Cmp(%v, %v) = %d, want %d", x.b, x.a, got, -x.want)
		}
		if got := rational.Equal(x.a, x.b); got != (x.want == 0) {
			t.Errorf("Equal(%v, %v) = %v", x.a, x.b, got)
		}
	}
}

// P3.2
func TestOrderRandom(t *testing.T) {
	r := newSource()
	for range rounds {
		a, b := randomRat(r, 2), randomRat(r, 2)
		want := toBig(a).Cmp(toBig(b))
		if got := rational.Cmp(a, b); got != want {
			t.Fatalf("Cmp(%v, %v) = %d, want %d", a, b, got, want)
		}
		if got := rational.Equal(a, b); got != (want == 0) {
			t.Fatalf("Equal(%v, %v) = %v", a, b, got)
		}
		if got := rational.Sign(a); got != toBig(a).Sign() {
			t.Fatalf("Sign(%v) = %d", a, got)
		}
		if !rational.Equal(a, fromBig(toBig(a))) {
			t.Fatalf("Equal(%v, %v) is false", a, fromBig(toBig(a)))
		}
	}
}
