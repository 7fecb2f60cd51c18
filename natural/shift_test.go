package natural_test

import (
	"math"
	"math/big"
	"testing"

	"geoprover/api"
	"geoprover/natural"
)

// P1.6
func TestShift(t *testing.T) {
	for _, x := range []struct {
		a    api.Nat
		n    int
		want api.Nat
	}{
		{nil, 5, nil},
		{api.Nat{0, 0}, 5, nil},
		{nil, -5, nil},
		{api.Nat{5, 0}, 0, api.Nat{5}},
		{api.Nat{5}, 1, api.Nat{10}},
		{api.Nat{5}, -1, api.Nat{2}},
		{api.Nat{5}, -2, api.Nat{1}},
		{api.Nat{5}, -3, nil},
		{api.Nat{5}, 16, api.Nat{0, 5}},
		{api.Nat{3}, 15, api.Nat{32768, 1}},
		{api.Nat{1, 2, 3}, -16, api.Nat{2, 3}},
		{api.Nat{1, 2, 3}, -33, api.Nat{1}},
		{api.Nat{1, 2, 3}, -48, nil},
		{api.Nat{1}, -1 << 20, nil},
		{api.Nat{1}, 1<<20 + 1, nil},
		{api.Nat{1}, -1<<20 - 1, nil},
		{api.Nat{1}, math.MaxInt, nil},
		{api.Nat{1}, math.MinInt, nil},
	} {
		if got := natural.Shift(x.a, x.n); !same(got, x.want) {
			t.Errorf("Shift(%v, %d) = %v, want %v", x.a, x.n, got, x.want)
		}
	}
	r := newSource()
	for range rounds {
		a, n := randomNat(r, 9), r.Intn(200)
		expect(t, "Shift up", natural.Shift(a, n), new(big.Int).Lsh(toBig(a), uint(n)))
		expect(t, "Shift down", natural.Shift(a, -n), new(big.Int).Rsh(toBig(a), uint(n)))
	}
}

// P1.6: the limits themselves are permitted, and what is beyond them is 0 even if a 2^n is not.
func TestShiftLimits(t *testing.T) {
	const limit = 1 << 20
	long := natural.Shift(api.Nat{5}, limit)
	if natural.Bits(long) != limit+3 || len(long) != limit/16+1 || long[limit/16] != 5 {
		t.Errorf("shift by 2^20 gives %d bits", natural.Bits(long))
	}
	if got := natural.Shift(long, -limit); !same(got, api.Nat{5}) {
		t.Errorf("shift by 2^20 and back gives %v", got)
	}
	longer := natural.Shift(long, 16)
	if got := natural.Shift(longer, -limit); !same(got, api.Nat{0, 5}) {
		t.Errorf("shift by -2^20 gives %v", got)
	}
	if got := natural.Shift(longer, -limit-1); len(got) != 0 {
		t.Errorf("shift by -2^20 - 1 gives %v", got)
	}
}

// P1.8: Shift by n and then by -n is the number.
func TestShiftBack(t *testing.T) {
	r := newSource()
	for range 200 {
		a, n := randomNat(r, 9), r.Intn(1<<20+1)
		if got := natural.Shift(natural.Shift(a, n), -n); !same(got, natural.Norm(a)) {
			t.Fatalf("Shift of %v by %d and back is %v", a, n, got)
		}
	}
}
