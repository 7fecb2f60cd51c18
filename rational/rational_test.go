package rational_test

import (
	"math"
	"math/big"
	"testing"

	"geoprover/api"
	"geoprover/rational"
)

// P3.1
func TestRight(t *testing.T) {
	for _, x := range []struct {
		a    api.Rat
		want bool
	}{
		{api.Rat{}, false},
		{raw(0, 1), true},
		{raw(0), false},
		{raw(0, 0), false},
		{raw(0, 2), false},
		{raw(1), false},
		{raw(1, 0), false},
		{raw(1, 1), true},
		{raw(-7, 1), true},
		{raw(-7, 1, 0), false},
		{raw(1, 2), true},
		{raw(-1, 2), true},
		{raw(2, 4), false},
		{raw(-6, 9), false},
		{raw(9, 4), true},
		{raw(5, 5), false},
		{raw(65536, 0, 1), false},
		{raw(65537, 0, 1), true},
		{raw(3, 0, 0, 0, 0, 0, 1), true},
		{raw(2, 0, 0, 0, 0, 0, 1), false},
		{api.Rat{Num: api.Int{Neg: true}, Den: api.Nat{1}}, false},
		{api.Rat{Num: api.Int{Abs: api.Nat{0}}, Den: api.Nat{1}}, false},
		{api.Rat{Num: api.Int{Abs: api.Nat{3, 0}}, Den: api.Nat{2}}, false},
	} {
		if got := rational.Right(x.a); got != x.want {
			t.Errorf("Right(%v) = %v", x.a, got)
		}
	}
	r := newSource()
	for range rounds {
		a := randomRat(r, 3)
		if got, want := rational.Right(a), same(a, fromBig(toBig(a))); got != want {
			t.Fatalf("Right(%v) = %v", a, got)
		}
	}
}

// P3.1
func TestMake(t *testing.T) {
	for _, x := range []struct {
		num, den int64
		want     string
	}{
		{2, -4, "-1/2"},
		{-2, -4, "1/2"},
		{-2, 4, "-1/2"},
		{0, 5, "0"},
		{0, -5, "0"},
		{6, 3, "2"},
		{6, -3, "-2"},
		{7, 1, "7"},
		{7, -1, "-7"},
		{1 << 40, 1 << 20, "1048576"},
	} {
		got, e := rational.Make(fromBigInt(big.NewInt(x.num)), fromBigInt(big.NewInt(x.den)))
		if !same(got, number(x.want)) || e != api.OK {
			t.Errorf("Make(%d, %d) = %v, %d", x.num, x.den, got, e)
		}
	}
	r := newSource()
	for range rounds {
		num, den := randomRat(r, 6).Num, randomRat(r, 6).Num
		if toBigNat(den.Abs).Sign() == 0 {
			continue
		}
		want := toBig(api.Rat{Num: num, Den: den.Abs})
		if den.Neg {
			want.Neg(want)
		}
		got, e := rational.Make(num, den)
		expect(t, "Make", got, want)
		if e != api.OK || !rational.Right(got) {
			t.Fatalf("Make(%v, %v) = %v, %d", num, den, got, e)
		}
	}
}

// P3.1: the denominator 0.
func TestMakeZero(t *testing.T) {
	for _, num := range []api.Int{{}, {Abs: api.Nat{1}}, {Neg: true, Abs: api.Nat{0, 3}}} {
		for _, den := range []api.Int{{}, {Neg: true}, {Abs: api.Nat{0, 0}}} {
			if got, e := rational.Make(num, den); !same(got, api.Rat{}) || e != api.ErrZero {
				t.Errorf("Make(%v, %v) = %v, %d", num, den, got, e)
			}
		}
	}
}

// P3.1
func TestOfFrac(t *testing.T) {
	numbers := []int{0, 1, -1, 2, -2, 3, 6, -9, 65535, -65536, 1 << 48, math.MaxInt, math.MinInt + 1, math.MinInt}
	for _, n := range numbers {
		expect(t, "Of", rational.Of(n), new(big.Rat).SetInt64(int64(n)))
		for _, d := range numbers {
			want := new(big.Rat)
			if d != 0 {
				want.SetFrac(big.NewInt(int64(n)), big.NewInt(int64(d)))
			}
			expect(t, "Frac", rational.Frac(n, d), want)
		}
	}
}
