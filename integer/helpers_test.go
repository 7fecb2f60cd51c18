package integer_test

import (
	"math/big"
	"math/rand"
	"slices"
	"testing"

	"geoprover/api"
)

// rounds is the number of pseudo-random cases of a test.
const rounds = 3000

// newSource returns a generator with a fixed seed, so that each run tests the same numbers.
func newSource() *rand.Rand { return rand.New(rand.NewSource(2)) }

// randomInt returns a number with at most limbs limbs that is not always valid: it may be a negative 0 and have leading zeros.
func randomInt(r *rand.Rand, limbs int) api.Int {
	extreme := []uint16{0, 0, 0, 1, 2, 0x8000, 0xffff, 0xffff}
	a := api.Int{Neg: r.Intn(2) == 0, Abs: make(api.Nat, r.Intn(limbs+1))}
	plain := r.Intn(2) == 0
	for i := range a.Abs {
		a.Abs[i] = uint16(r.Uint32())
		if !plain {
			a.Abs[i] = extreme[r.Intn(len(extreme))]
		}
	}
	return a
}

// toBig returns the value of a by the definition of the document.
func toBig(a api.Int) *big.Int {
	sum := new(big.Int)
	for i := len(a.Abs) - 1; i >= 0; i-- {
		sum.Lsh(sum, 16)
		sum.Add(sum, big.NewInt(int64(a.Abs[i])))
	}
	if a.Neg {
		sum.Neg(sum)
	}
	return sum
}

// fromBig returns the valid Int with the value x.
func fromBig(x *big.Int) api.Int {
	a := api.Int{Neg: x.Sign() < 0}
	rest := new(big.Int).Abs(x)
	for rest.Sign() > 0 {
		limb := new(big.Int).And(rest, big.NewInt(0xffff))
		a.Abs = append(a.Abs, uint16(limb.Uint64()))
		rest.Rsh(rest, 16)
	}
	return a
}

// small returns the valid Int with the value n, without package integer.
func small(n int64) api.Int { return fromBig(big.NewInt(n)) }

// same reports whether two representations are equal.
func same(a, b api.Int) bool { return a.Neg == b.Neg && slices.Equal(a.Abs, b.Abs) }

// expect fails unless got is the valid Int with the value want.
func expect(t *testing.T, what string, got api.Int, want *big.Int) {
	t.Helper()
	if !same(got, fromBig(want)) {
		t.Fatalf("%s: got %v, want %v", what, got, fromBig(want))
	}
}
