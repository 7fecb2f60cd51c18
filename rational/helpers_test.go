package rational_test

import (
	"math/big"
	"math/rand"
	"slices"
	"testing"

	"geoprover/api"
	"geoprover/natural"
)

// rounds is the number of pseudo-random cases of a test.
const rounds = 3000

// newSource returns a generator with a fixed seed, so that each run tests the same numbers.
func newSource() *rand.Rand { return rand.New(rand.NewSource(3)) }

// randomRat returns a number that is not always valid: its parts may have common divisors and leading zeros, its numerator may be a negative 0, and its denominator 0.
func randomRat(r *rand.Rand, limbs int) api.Rat {
	a := api.Rat{Num: api.Int{Neg: r.Intn(2) == 0, Abs: randomNat(r, limbs)}, Den: randomNat(r, limbs)}
	switch r.Intn(4) {
	case 0:
		a.Den = api.Nat{1}
	case 1: // a common divisor
		d := toBigNat(randomNat(r, limbs))
		a.Num.Abs = fromBigNat(d.Mul(d, toBigNat(a.Num.Abs)))
		a.Den = fromBigNat(d.Mul(d, toBigNat(a.Den)))
	}
	return a
}

// randomNat returns a natural number with at most limbs limbs, often a special one.
func randomNat(r *rand.Rand, limbs int) api.Nat {
	extreme := []uint16{0, 0, 1, 2, 6, 0x8000, 0xffff}
	a := make(api.Nat, r.Intn(limbs+1))
	plain := r.Intn(2) == 0
	for i := range a {
		a[i] = uint16(r.Uint32())
		if !plain {
			a[i] = extreme[r.Intn(len(extreme))]
		}
	}
	return a
}

// toBigNat returns the value of a.
func toBigNat(a api.Nat) *big.Int {
	x, _ := new(big.Int).SetString(natural.Text(a), 10)
	return x
}

// fromBigNat returns the valid Nat with the absolute value of x.
func fromBigNat(x *big.Int) api.Nat {
	a, e := natural.Read(new(big.Int).Abs(x).String())
	if e != api.OK {
		panic(e)
	}
	return a
}

// toBig returns the value of a by the definition of the document.
func toBig(a api.Rat) *big.Rat {
	num, den := toBigNat(a.Num.Abs), toBigNat(a.Den)
	if den.Sign() == 0 {
		return new(big.Rat)
	}
	if a.Num.Neg {
		num.Neg(num)
	}
	return new(big.Rat).SetFrac(num, den)
}

// fromBig returns the valid Rat with the value x.
func fromBig(x *big.Rat) api.Rat {
	return api.Rat{Num: fromBigInt(x.Num()), Den: fromBigNat(x.Denom())}
}

// fromBigInt returns the valid Int with the value x.
func fromBigInt(x *big.Int) api.Int {
	return api.Int{Neg: x.Sign() < 0, Abs: fromBigNat(x)}
}

// number returns the valid Rat with the text s, without package rational.
func number(s string) api.Rat {
	x, ok := new(big.Rat).SetString(s)
	if !ok {
		panic(s)
	}
	return fromBig(x)
}

// raw returns the Rat with just these parts.
func raw(num int64, den ...uint16) api.Rat {
	return api.Rat{Num: fromBigInt(big.NewInt(num)), Den: den}
}

// same reports whether two representations are equal.
func same(a, b api.Rat) bool {
	return sameInt(a.Num, b.Num) && slices.Equal(a.Den, b.Den)
}

// sameInt reports whether two representations are equal.
func sameInt(a, b api.Int) bool {
	return a.Neg == b.Neg && slices.Equal(a.Abs, b.Abs)
}

// expect fails unless got is the valid Rat with the value want.
func expect(t *testing.T, what string, got api.Rat, want *big.Rat) {
	t.Helper()
	if !same(got, fromBig(want)) {
		t.Fatalf("%s: got %v, want %v", what, got, want)
	}
}
