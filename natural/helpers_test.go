package natural_test

import (
	"math/big"
	"math/rand"
	"slices"
	"testing"

	"geoprover/api"
	"geoprover/natural"
)

// rounds is the number of pseudo-random cases of a test.
const rounds = 3000

// newSource returns a generator with a fixed seed, so that each run tests the same numbers.
func newSource() *rand.Rand { return rand.New(rand.NewSource(1)) }

// randomNat returns a number with at most limbs limbs, many of which are extreme, and sometimes with leading zeros.
func randomNat(r *rand.Rand, limbs int) api.Nat {
	extreme := []uint16{0, 0, 1, 2, 0x7fff, 0x8000, 0xfffe, 0xffff, 0xffff}
	a := make(api.Nat, r.Intn(limbs+1))
	plain := r.Intn(2) == 0
	for i := range a {
		a[i] = uint16(r.Uint32())
		if !plain {
			a[i] = extreme[r.Intn(len(extreme))]
		}
	}
	return a
}

// toBig returns the value of a by the definition of the document.
func toBig(a api.Nat) *big.Int {
	sum := new(big.Int)
	for i := len(a) - 1; i >= 0; i-- {
		sum.Lsh(sum, 16)
		sum.Add(sum, big.NewInt(int64(a[i])))
	}
	return sum
}

// fromBig returns the valid Nat with the value x.
func fromBig(x *big.Int) api.Nat {
	var a api.Nat
	rest := new(big.Int).Set(x)
	for rest.Sign() > 0 {
		limb := new(big.Int).And(rest, big.NewInt(0xffff))
		a = append(a, uint16(limb.Uint64()))
		rest.Rsh(rest, 16)
	}
	return a
}

// decimal returns the number with the numeral s, without package natural.
func decimal(s string) api.Nat {
	x, ok := new(big.Int).SetString(s, 10)
	if !ok {
		panic("no numeral: " + s)
	}
	return fromBig(x)
}

// same reports whether two representations are equal.
func same(a, b api.Nat) bool { return slices.Equal(a, b) }

// expect fails unless got is the valid Nat with the value want.
func expect(t *testing.T, what string, got api.Nat, want *big.Int) {
	t.Helper()
	if !same(got, fromBig(want)) {
		t.Fatalf("%s: got %v, want %v", what, got, fromBig(want))
	}
}

// mustDivMod returns the quotient and the rest of numbers that can be divided.
func mustDivMod(t *testing.T, a, b api.Nat) (q, r api.Nat) {
	t.Helper()
	q, r, e := natural.DivMod(a, b)
	if e != api.OK {
		t.Fatalf("DivMod(%v, %v): error %d", a, b, e)
	}
	return q, r
}
